/-
  Drawn orders, right or not, and texts of orders, spoilt or not: the contracts of the specification's draws.
-/
import Derived.Test.YticlbaopnbddbaaDoorDrawOr
import Derived.Test.YticlbaopnbddbaaDoorDrawSp
import Derived.Test.YticlbaopnbddbaaDoorOrdU
namespace Go.Proofs.YticlbaopnbddbaaDoor.I
open Go.RowKit Go.PlainAid
set_option linter.unusedVariables false
set_option linter.unusedSimpArgs false

theorem DOr.al {w W : World} {C B : Nat} {a : Option Addr} {len cap k : Nat} {x y z u : Int} (h : DOr w W C B a len cap k x y z u) (o : Obj) : DOr w (W.alloc o) C B a len cap k x y z u := by
  obtain ⟨h1, h2, h3, h4, h5, h6⟩ := h
  have hs := h1.2.2.size
  exact ⟨drawn_alloc h1 (by omega) _, (Below.heap_alloc _ _ _ (row_lt h2)).trans h2, (Below.heap_alloc _ _ _ (row_lt h3)).trans h3, h4, h5, h6⟩
theorem drawn_bel {w W W' : World} {C B : Nat} {a : Option Addr} {len cap : Nat} (h : Drawn w W C B a len cap) (hB : B ≤ W.heap.size) (hb : Below W.heap.size W W') : Drawn w W' C B a len cap := by
  obtain ⟨⟨i, x, hi, hc⟩, h2, h3⟩ := h
  refine ⟨⟨i, x, hi, row_on hc hb⟩, code_below h2 (hb.mono hB), ?_⟩
  exact ⟨hb.os.trans h3.os, hb.tape.trans h3.tape, hb.output.trans h3.output, Nat.le_trans h3.size hb.size, fun k hk hne => (hb.block k (Nat.lt_of_lt_of_le hk h3.size)).trans (h3.block k hk hne)⟩
theorem laid_ints (w : World) (l : List Int) (j : Nat) (hj : j < l.length) : (w.alloc (.cells (l.map (Value.int .i64)).toArray 3)).cell? ⟨w.heap.size, j, none⟩ = some (.int .i64 l[j]) := by
  unfold World.cell? World.alloc
  simp [hj]
set_option maxRecDepth 100000 in
set_option maxHeartbeats 4000000 in
theorem anyOD (C B : Nat) (a : Option Addr) (len cap : Nat) (w : World) (hC : Cur w C a len cap) (hB : B ≤ C) (hcode : CodeOk w B a len) :
    Calls Tryd.prog 19 #[.pointer (some ⟨C, 0, none⟩)] w fun e w' => ∃ k n d v : Int, e = .returned (ordV k n d v) ∧ Drawn w w' C B a len cap := by
  have hlt := cur_lt hC
  have HD0 : Hid (Drawn w (w.alloc (.cells #[.int .i64 0, .int .i64 0, .int .i64 0, .int .i64 0] 25)) C B a len cap) := drawn_alloc ⟨hC, hcode, World.grownBy.refl _ _⟩ (by omega) _
  have HZ0 : Hid ((w.alloc (.cells #[.int .i64 0, .int .i64 0, .int .i64 0, .int .i64 0] 25)).heap[w.heap.size]? = some (.cells #[.int .i64 0, .int .i64 0, .int .i64 0, .int .i64 0] 25)) := heap_new w _
  clear hC hcode
  go_enter Tryd.func19, Tryd.ntmps19
  go_wp2_with fail
  refine (orderD C B a len cap _ HD0.out.1 hB HD0.out.2.1).mono ?_
  rintro e w1 ⟨k, n, d, v, rfl, hD⟩
  have hs := hD.2.2.size
  have HD1 : Hid (Drawn w w1 C B a len cap) := drawn_trans HD0.out hD
  have HZ1 : w1.heap[w.heap.size]? = some (.cells #[.int .i64 0, .int .i64 0, .int .i64 0, .int .i64 0] 25) := row_drawn HZ0.out hD.2.2 (by omega)
  have hs1 := row_lt HZ1
  have HI : Hid (DOr w (w1.alloc (.cells #[.int .i64 k, .int .i64 n, .int .i64 d, .int .i64 v] 25)) C B a len cap w1.heap.size k n d v) :=
    ⟨drawn_alloc HD1.out (by omega) _, (Below.heap_alloc _ _ _ (by omega)).trans HZ1, heap_new w1 _, hlt, hB, by omega⟩
  unfold ordV
  clear hD HD1 HZ1 HD0 HZ0
  go_wp2_with fail
  refine (below28 C B a len cap 12 (by omega) (by omega) _ HI.out.1.1 hB HI.out.1.2.1).mono ?_
  rintro e w2 ⟨q, rfl, q0, q1, hD⟩
  have HI2 : Hid (DOr w w2 C B a len cap w1.heap.size k n d v) := HI.out.on hD
  have hw2 := row_lt HI2.out.2.2.1
  have k2 := row4c HI2.out.2.2.1
  clear hD HI
  have ways : q = 0 ∨ q = 1 ∨ q = 2 ∨ q = 3 ∨ ((q == 0) = false ∧ (q == 1) = false ∧ (q == 2) = false ∧ (q == 3) = false) := by
    by_cases h1 : q = 0
    · exact .inl h1
    by_cases h2 : q = 1
    · exact .inr (.inl h2)
    by_cases h3 : q = 2
    · exact .inr (.inr (.inl h3))
    by_cases h4 : q = 3
    · exact .inr (.inr (.inr (.inl h4)))
    exact .inr (.inr (.inr (.inr ⟨by simpa using h1, by simpa using h2, by simpa using h3, by simpa using h4⟩)))
  rcases ways with rfl | rfl | rfl | rfl | ⟨g1, g2, g3, g4⟩
  · go_wp2_with fail
    refine (below28 C B a len cap 8 (by omega) (by omega) _ HI2.out.1.1 hB HI2.out.1.2.1).mono ?_
    rintro e w4 ⟨y, rfl, y0, y1, hD⟩
    have h4 := HI2.out.on hD
    have k6 := row4c h4.2.2.1
    have HI4 : Hid (DOr _ _ _ _ _ _ _ _ _ _ _ _) := h4.put0 y
    clear hD HI2 h4 k2
    have kk := row4c HI4.out.2.2.1
    have kz := row4c HI4.out.2.1
    have HF : Hid (Drawn _ _ _ _ _ _ _) := HI4.out.done
    clear HI4
    go_wp2
    refine bodyPost_ret (v := ordV y n d v) (by simp [results, Tryd.results19, go_sem, kz, ordV]) rfl ⟨_, _, _, _, rfl, HF.out⟩
  · have _t := trivial
    have HLI : Hid _ := laid_ints w2 [-1, 0, 1, 1000, 1001]
    have HIa : Hid (DOr w (w2.alloc (.cells (([-1, 0, 1, 1000, 1001] : List Int).map (Value.int .i64)).toArray 3)) C B a len cap w1.heap.size k n d v) := HI2.out.al _
    go_wp2_with fail
    refine (pick26' C B a len cap [-1, 0, 1, 1000, 1001] 5 _ _ rfl (by omega) (by omega) _ HIa.out.1.1 hB HIa.out.1.2.1 (by omega) (by simp) HLI.out).mono ?_
    rintro e w4 ⟨y, rfl, _, hD⟩
    have h4 := HIa.out.on hD
    have k6 := row4c h4.2.2.1
    have HI4 : Hid (DOr _ _ _ _ _ _ _ _ _ _ _ _) := h4.put1 y
    clear hD HI2 HIa HLI h4 k2
    have kk := row4c HI4.out.2.2.1
    have kz := row4c HI4.out.2.1
    have HF : Hid (Drawn _ _ _ _ _ _ _) := HI4.out.done
    clear HI4
    go_wp2
    refine bodyPost_ret (v := ordV k y d v) (by simp [results, Tryd.results19, go_sem, kz, ordV]) rfl ⟨_, _, _, _, rfl, HF.out⟩
  · have _t := trivial
    have HLI : Hid _ := laid_ints w2 [0, 1, 1000, 1001]
    have HIa : Hid (DOr w (w2.alloc (.cells (([0, 1, 1000, 1001] : List Int).map (Value.int .i64)).toArray 3)) C B a len cap w1.heap.size k n d v) := HI2.out.al _
    go_wp2_with fail
    refine (pick26' C B a len cap [0, 1, 1000, 1001] 4 _ _ rfl (by omega) (by omega) _ HIa.out.1.1 hB HIa.out.1.2.1 (by omega) (by simp) HLI.out).mono ?_
    rintro e w4 ⟨y, rfl, _, hD⟩
    have h4 := HIa.out.on hD
    have k6 := row4c h4.2.2.1
    have HI4 : Hid (DOr _ _ _ _ _ _ _ _ _ _ _ _) := h4.put2 y
    clear hD HI2 HIa HLI h4 k2
    have kk := row4c HI4.out.2.2.1
    have kz := row4c HI4.out.2.1
    have HF : Hid (Drawn _ _ _ _ _ _ _) := HI4.out.done
    clear HI4
    go_wp2
    refine bodyPost_ret (v := ordV k n y v) (by simp [results, Tryd.results19, go_sem, kz, ordV]) rfl ⟨_, _, _, _, rfl, HF.out⟩
  · have _t := trivial
    have HLI : Hid _ := laid_ints w2 [0, 1, 100, 101, 5000, 5001]
    have HIa : Hid (DOr w (w2.alloc (.cells (([0, 1, 100, 101, 5000, 5001] : List Int).map (Value.int .i64)).toArray 3)) C B a len cap w1.heap.size k n d v) := HI2.out.al _
    go_wp2_with fail
    refine (pick26' C B a len cap [0, 1, 100, 101, 5000, 5001] 6 _ _ rfl (by omega) (by omega) _ HIa.out.1.1 hB HIa.out.1.2.1 (by omega) (by simp) HLI.out).mono ?_
    rintro e w4 ⟨y, rfl, _, hD⟩
    have h4 := HIa.out.on hD
    have k6 := row4c h4.2.2.1
    have HI4 : Hid (DOr _ _ _ _ _ _ _ _ _ _ _ _) := h4.put3 y
    clear hD HI2 HIa HLI h4 k2
    have kk := row4c HI4.out.2.2.1
    have kz := row4c HI4.out.2.1
    have HF : Hid (Drawn _ _ _ _ _ _ _) := HI4.out.done
    clear HI4
    go_wp2
    refine bodyPost_ret (v := ordV k n d y) (by simp [results, Tryd.results19, go_sem, kz, ordV]) rfl ⟨_, _, _, _, rfl, HF.out⟩
  · have HI4 : Hid (DOr w w2 C B a len cap w1.heap.size k n d v) := HI2.out
    clear HI2 k2
    have kk := row4c HI4.out.2.2.1
    have kz := row4c HI4.out.2.1
    have HF : Hid (Drawn _ _ _ _ _ _ _) := HI4.out.done
    clear HI4
    go_wp2
    refine bodyPost_ret (v := ordV k n d v) (by simp [results, Tryd.results19, go_sem, kz, ordV]) rfl ⟨_, _, _, _, rfl, HF.out⟩

set_option maxRecDepth 100000 in
set_option maxHeartbeats 1000000 in
theorem drawOrd (a : Option Addr) (len cap : Nat) (w : World) (hcode : CodeOk w w.heap.size a len) :
    Calls Tryd.prog 7 #[.slice a len cap] w fun e w' => ∃ k n d v : Int, e = .returned (ordV k n d v) ∧ Below w.heap.size w w' := by
  have HC : Hid (CodeOk (w.alloc (.cells #[.int .i64 0, .int .i64 0, .int .i64 0, .int .i64 0] 25)) w.heap.size a len) := code_below hcode (alQ w _)
  have HZ : Hid ((w.alloc (.cells #[.int .i64 0, .int .i64 0, .int .i64 0, .int .i64 0] 25)).heap[w.heap.size]? = some (.cells #[.int .i64 0, .int .i64 0, .int .i64 0, .int .i64 0] 25)) := heap_new w _
  have HB : Hid (Below w.heap.size w (w.alloc (.cells #[.int .i64 0, .int .i64 0, .int .i64 0, .int .i64 0] 25))) := alQ w _
  clear hcode
  go_enter Tryd.func7, Tryd.ntmps7
  go_wp2_with fail
  refine (new23 w.heap.size a len cap _ HC.out HB.out.size).mono ?_
  rintro e w1 ⟨C, rfl, hC, hcu, hco, hb1⟩
  have hC1 : w.heap.size + 1 ≤ C := by simpa using hC
  have HD1 : Hid (Drawn w1 w1 C w.heap.size a len cap) := ⟨hcu, hco, World.grownBy.refl _ _⟩
  have HB1 : Hid (Below w.heap.size w w1) := bel_on (Nat.le_refl _) HB.out hb1
  have HZ1 : Hid (w1.heap[w.heap.size]? = some (.cells #[.int .i64 0, .int .i64 0, .int .i64 0, .int .i64 0] 25)) := row_on HZ.out hb1
  clear HC hcu hco hb1 HZ HB
  go_wp2_with fail
  refine (anyOD C w.heap.size a len cap _ HD1.out.1 (by omega) HD1.out.2.1).mono ?_
  rintro e w2 ⟨k, n, d, v, rfl, hD⟩
  have HB2 : Below w.heap.size w w2 := drawn_below HB1.out (by omega) hD
  have HZ2 : w2.heap[w.heap.size]? = some (.cells #[.int .i64 0, .int .i64 0, .int .i64 0, .int .i64 0] 25) := row_drawn HZ1.out hD.2.2 (by omega)
  have kz := row4c HZ2
  have HF : Hid (Below w.heap.size w ((((w2.setCell ⟨w.heap.size, 0, none⟩ (.int .i64 k)).setCell ⟨w.heap.size, 1, none⟩ (.int .i64 n)).setCell ⟨w.heap.size, 2, none⟩ (.int .i64 d)).setCell ⟨w.heap.size, 3, none⟩ (.int .i64 v))) := (((HB2.setCell (Nat.le_refl _) _).setCell (Nat.le_refl _) _).setCell (Nat.le_refl _) _).setCell (Nat.le_refl _) _
  unfold ordV
  clear hD HD1 HB1 HZ1 HB2
  go_wp2
  refine bodyPost_ret (v := ordV k n d v) (by simp [results, Tryd.results7, go_sem, kz, ordV]) rfl ⟨_, _, _, _, rfl, HF.out⟩

theorem text_any (k n d v : Int) (w : World) : Calls Tryd.prog 16 #[ordV k n d v] w fun e w' => ∃ (t : ByteArray) (b : Bool), e = .returned (.tuple #[.string t, .bool b]) ∧ t.size ≤ 20 ∧ Below w.heap.size w w' := by
  by_cases hR : OrdR k n d v
  · refine (textS k n d v hR w).mono ?_
    rintro e w' ⟨rfl, hb⟩
    have h := ordB_small hR
    exact ⟨_, _, rfl, by unfold ordT; rw [ByteArray.size_append, Q.sigil_size]; omega, hb⟩
  · refine (textNo k n d v hR w).mono ?_
    rintro e w' ⟨rfl, hb⟩
    exact ⟨_, _, rfl, by decide, hb⟩
theorem uns_any (t : ByteArray) (ht : t.size ≤ 100) (w : World) : Calls Tryd.prog 29 #[.string t] w fun e w' => ∃ (s : ByteArray) (b : Bool), e = .returned (.tuple #[.string s, .bool b]) ∧ s.size ≤ 100 ∧ Below w.heap.size w w' := by
  refine (Q.sun4 t (by omega) w).mono ?_
  rintro e w' ⟨rfl, hb⟩
  rcases h : Q.unsealed t with _ | s
  · exact ⟨_, _, rfl, by decide, hb⟩
  · refine ⟨_, _, rfl, ?_, hb⟩
    have e := (uns_some h).1
    rw [e, ByteArray.size_append] at ht
    omega
set_option maxRecDepth 100000 in
set_option maxHeartbeats 1000000 in
theorem drawRdO (a : Option Addr) (len cap : Nat) (w : World) (hcode : CodeOk w w.heap.size a len) :
    Calls Tryd.prog 12 #[.slice a len cap] w fun e w' => ∃ t : ByteArray, e = .returned (.string t) ∧ t.size ≤ 1000 ∧ Below w.heap.size w w' := by
  have HC : Hid (CodeOk w w.heap.size a len) := hcode
  clear hcode
  go_enter Tryd.func12, Tryd.ntmps12
  go_wp2_with fail
  refine (new23 w.heap.size a len cap _ HC.out (Nat.le_refl _)).mono ?_
  rintro e w1 ⟨C, rfl, hC, hcu, hco, hb1⟩
  have HD1 : Hid (Drawn w1 w1 C w.heap.size a len cap) := ⟨hcu, hco, World.grownBy.refl _ _⟩
  have HB1 : Hid (Below w.heap.size w w1) := hb1
  have hz1 := hb1.size
  have hl1 := cur_lt hcu
  clear HC hcu hco hb1
  go_wp2_with fail
  refine (anyOD C w.heap.size a len cap _ HD1.out.1 hC HD1.out.2.1).mono ?_
  rintro e w2 ⟨k, n, d, v, rfl, hD⟩
  have HD2 : Hid (Drawn w1 w2 C w.heap.size a len cap) := hD
  have hz2 := hD.2.2.size
  clear hD HD1
  go_wp2_with fail
  refine (text_any k n d v _).mono ?_
  rintro e w3 ⟨t, b, rfl, ht, hb3⟩
  have HD3 : Hid (Drawn w1 w3 C w.heap.size a len cap) := drawn_bel HD2.out (by omega) hb3
  have hz3 := hb3.size
  clear hb3 HD2
  go_wp2_with fail
  refine (onceR C w.heap.size a len cap 3 (by decide) (by decide) _ HD3.out.1 hC HD3.out.2.1).mono ?_
  rintro e w4 ⟨o, rfl, hD⟩
  have HD4 : Hid (Drawn w1 w4 C w.heap.size a len cap) := drawn_trans HD3.out hD
  have hz4 := hD.2.2.size
  clear hD HD3
  cases o
  · go_wp2_with fail
    refine (spoiltD C w.heap.size a len cap t (by omega) _ HD4.out.1 hC HD4.out.2.1).mono ?_
    rintro e w5 ⟨t2, rfl, ht2, hD⟩
    have HB5 : Hid (Below w.heap.size w w5) := drawn_below HB1.out hC (drawn_trans HD4.out hD)
    clear hD HD4
    go_wp2
    go_ret
    exact ⟨_, rfl, by omega, HB5.out⟩
  · go_wp2_with fail
    refine (uns_any t (by omega) _).mono ?_
    rintro e w5 ⟨s, c, rfl, hs, hb5⟩
    have HD5 : Hid (Drawn w1 w5 C w.heap.size a len cap) := drawn_bel HD4.out (by omega) hb5
    have hz5 := hb5.size
    clear hb5 HD4
    cases c
    · have HB5 : Hid (Below w.heap.size w w5) := drawn_below HB1.out hC HD5.out
      clear HD5
      go_wp2
      go_ret
      exact ⟨_, rfl, by omega, HB5.out⟩
    · go_wp2_with fail
      refine (spoiltD C w.heap.size a len cap s (by omega) _ HD5.out.1 hC HD5.out.2.1).mono ?_
      rintro e w6 ⟨t2, rfl, ht2, hD⟩
      have HB6 : Hid (Below w.heap.size w w6) := drawn_below HB1.out hC (drawn_trans HD5.out hD)
      clear hD HD5
      go_wp2_with fail
      refine (Q.sealS t2 (by omega) _).mono ?_
      rintro e w7 ⟨rfl, hb7⟩
      have HB7 : Hid (Below w.heap.size w w7) := bel_on (Nat.le_refl _) HB6.out hb7
      obtain ⟨T, hT⟩ : ∃ T, t2 ++ Q.sigil t2 = T := ⟨_, rfl⟩
      have HT : Hid (T.size ≤ 1000) := by show _ ≤ _; rw [← hT, ByteArray.size_append, Q.sigil_size]; omega
      rw [hT]
      clear hb7 HB6 hT
      go_wp2
      go_ret
      exact ⟨_, rfl, HT.out, HB7.out⟩
end Go.Proofs.YticlbaopnbddbaaDoor.I
