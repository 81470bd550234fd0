/-
  Drawn orders, right or not.
-/
import Derived.Test.YtpjnmkijndmemaaDrawOr
namespace Go.Proofs.Ytpjnmkijndmemaa.I
open Go.RowKit Go.PlainAid
set_option linter.unusedVariables false
set_option linter.unusedSimpArgs false

theorem DOr.al {w W : World} {C B : Nat} {a : Option Addr} {len cap k : Nat} {x y z u : Int} (h : DOr w W C B a len cap k x y z u) (o : Obj) : DOr w (W.alloc o) C B a len cap k x y z u := by
  obtain ⟨h1, h2, h3, h4, h5, h6⟩ := h
  have hs := h1.2.2.size
  exact ⟨drawn_alloc h1 (by omega) _, (Below.heap_alloc _ _ _ (row_lt h2)).trans h2, (Below.heap_alloc _ _ _ (row_lt h3)).trans h3, h4, h5, h6⟩
theorem drawn_bel {w W W' : World} {C B : Nat} {a : Option Addr} {len cap : Nat} (h : Drawn w W C B a len cap) (hB : B ≤ W.heap.size) (hb : Below W.heap.size W W') : Drawn w W' C B a len cap := by
  obtain ⟨⟨i, x, hi, hc⟩, h2, h3⟩ := h
  refine ⟨⟨i, x, hi, row_on hc hb⟩, code_below h2 (hb.mono hB), ?_⟩
  exact ⟨hb.os.trans h3.os, hb.tape.trans h3.tape, hb.output.trans h3.output, Nat.le_trans h3.size hb.size, fun k hk hne => (hb.block k (Nat.lt_of_lt_of_le hk h3.size)).trans (h3.block k hk hne)⟩
theorem laid_ints (w : World) (l : List Int) (j : Nat) (hj : j < l.length) : (w.alloc (.cells (l.map (Value.int .i64)).toArray 3)).cell? ⟨w.heap.size, j, none⟩ = some (.int .i64 l[j]) := by
  unfold World.cell? World.alloc
  simp [hj]
set_option maxRecDepth 100000 in
set_option maxHeartbeats 4000000 in
theorem anyOD (C B : Nat) (a : Option Addr) (len cap : Nat) (w : World) (hC : Cur w C a len cap) (hB : B ≤ C) (hcode : CodeOk w B a len) :
    Calls Try.prog 33 #[.pointer (some ⟨C, 0, none⟩)] w fun e w' => ∃ k n d v : Int, e = .returned (ordV k n d v) ∧ Drawn w w' C B a len cap := by
  have hlt := cur_lt hC
  have HD0 : Hid (Drawn w (w.alloc (.cells #[.int .i64 0, .int .i64 0, .int .i64 0, .int .i64 0] 30)) C B a len cap) := drawn_alloc ⟨hC, hcode, World.grownBy.refl _ _⟩ (by omega) _
  have HZ0 : Hid ((w.alloc (.cells #[.int .i64 0, .int .i64 0, .int .i64 0, .int .i64 0] 30)).heap[w.heap.size]? = some (.cells #[.int .i64 0, .int .i64 0, .int .i64 0, .int .i64 0] 30)) := heap_new w _
  clear hC hcode
  go_enter Try.func33, Try.ntmps33
  go_wp2_with fail
  refine (orderD C B a len cap _ HD0.out.1 hB HD0.out.2.1).mono ?_
  rintro e w1 ⟨k, n, d, v, rfl, hD⟩
  have hs := hD.2.2.size
  have HD1 : Hid (Drawn w w1 C B a len cap) := drawn_trans HD0.out hD
  have HZ1 : w1.heap[w.heap.size]? = some (.cells #[.int .i64 0, .int .i64 0, .int .i64 0, .int .i64 0] 30) := row_drawn HZ0.out hD.2.2 (by omega)
  have hs1 := row_lt HZ1
  have HI : Hid (DOr w (w1.alloc (.cells #[.int .i64 k, .int .i64 n, .int .i64 d, .int .i64 v] 30)) C B a len cap w1.heap.size k n d v) :=
    ⟨drawn_alloc HD1.out (by omega) _, (Below.heap_alloc _ _ _ (by omega)).trans HZ1, heap_new w1 _, hlt, hB, by omega⟩
  unfold ordV
  clear hD HD1 HZ1 HD0 HZ0
  go_wp2_with fail
  refine (below28 C B a len cap 12 (by omega) (by omega) _ HI.out.1.1 hB HI.out.1.2.1).mono ?_
  rintro e w2 ⟨q, rfl, q0, q1, hD⟩
  have HI2 : Hid (DOr w w2 C B a len cap w1.heap.size k n d v) := HI.out.on hD
  have hw2 := row_lt HI2.out.2.2.1
  have k2 := row4c HI2.out.2.2.1
  clear hD HI
  have ways : q = 0 ∨ q = 1 ∨ q = 2 ∨ q = 3 ∨ ((q == 0) = false ∧ (q == 1) = false ∧ (q == 2) = false ∧ (q == 3) = false) := by
    by_cases h1 : q = 0
    · exact .inl h1
    by_cases h2 : q = 1
    · exact .inr (.inl h2)
    by_cases h3 : q = 2
    · exact .inr (.inr (.inl h3))
    by_cases h4 : q = 3
    · exact .inr (.inr (.inr (.inl h4)))
    exact .inr (.inr (.inr (.inr ⟨by simpa using h1, by simpa using h2, by simpa using h3, by simpa using h4⟩)))
  rcases ways with rfl | rfl | rfl | rfl | ⟨g1, g2, g3, g4⟩
  · go_wp2_with fail
    refine (below28 C B a len cap 8 (by omega) (by omega) _ HI2.out.1.1 hB HI2.out.1.2.1).mono ?_
    rintro e w4 ⟨y, rfl, y0, y1, hD⟩
    have h4 := HI2.out.on hD
    have k6 := row4c h4.2.2.1
    have HI4 : Hid (DOr _ _ _ _ _ _ _ _ _ _ _ _) := h4.put0 y
    clear hD HI2 h4 k2
    have kk := row4c HI4.out.2.2.1
    have kz := row4c HI4.out.2.1
    have HF : Hid (Drawn _ _ _ _ _ _ _) := HI4.out.done
    clear HI4
    go_wp2
    refine bodyPost_ret (v := ordV y n d v) (by simp [results, Try.results33, go_sem, kz, ordV]) rfl ⟨_, _, _, _, rfl, HF.out⟩
  · have _t := trivial
    have HLI : Hid _ := laid_ints w2 [-1, 0, 1, 1000, 1001]
    have HIa : Hid (DOr w (w2.alloc (.cells (([-1, 0, 1, 1000, 1001] : List Int).map (Value.int .i64)).toArray 3)) C B a len cap w1.heap.size k n d v) := HI2.out.al _
    go_wp2_with fail
    refine (pick26' C B a len cap [-1, 0, 1, 1000, 1001] 5 _ _ rfl (by omega) (by omega) _ HIa.out.1.1 hB HIa.out.1.2.1 (by omega) (by simp) HLI.out).mono ?_
    rintro e w4 ⟨y, rfl, _, hD⟩
    have h4 := HIa.out.on hD
    have k6 := row4c h4.2.2.1
    have HI4 : Hid (DOr _ _ _ _ _ _ _ _ _ _ _ _) := h4.put1 y
    clear hD HI2 HIa HLI h4 k2
    have kk := row4c HI4.out.2.2.1
    have kz := row4c HI4.out.2.1
    have HF : Hid (Drawn _ _ _ _ _ _ _) := HI4.out.done
    clear HI4
    go_wp2
    refine bodyPost_ret (v := ordV k y d v) (by simp [results, Try.results33, go_sem, kz, ordV]) rfl ⟨_, _, _, _, rfl, HF.out⟩
  · have _t := trivial
    have HLI : Hid _ := laid_ints w2 [0, 1, 1000, 1001]
    have HIa : Hid (DOr w (w2.alloc (.cells (([0, 1, 1000, 1001] : List Int).map (Value.int .i64)).toArray 3)) C B a len cap w1.heap.size k n d v) := HI2.out.al _
    go_wp2_with fail
    refine (pick26' C B a len cap [0, 1, 1000, 1001] 4 _ _ rfl (by omega) (by omega) _ HIa.out.1.1 hB HIa.out.1.2.1 (by omega) (by simp) HLI.out).mono ?_
    rintro e w4 ⟨y, rfl, _, hD⟩
    have h4 := HIa.out.on hD
    have k6 := row4c h4.2.2.1
    have HI4 : Hid (DOr _ _ _ _ _ _ _ _ _ _ _ _) := h4.put2 y
    clear hD HI2 HIa HLI h4 k2
    have kk := row4c HI4.out.2.2.1
    have kz := row4c HI4.out.2.1
    have HF : Hid (Drawn _ _ _ _ _ _ _) := HI4.out.done
    clear HI4
    go_wp2
    refine bodyPost_ret (v := ordV k n y v) (by simp [results, Try.results33, go_sem, kz, ordV]) rfl ⟨_, _, _, _, rfl, HF.out⟩
  · have _t := trivial
    have HLI : Hid _ := laid_ints w2 [0, 1, 100, 101, 5000, 5001]
    have HIa : Hid (DOr w (w2.alloc (.cells (([0, 1, 100, 101, 5000, 5001] : List Int).map (Value.int .i64)).toArray 3)) C B a len cap w1.heap.size k n d v) := HI2.out.al _
    go_wp2_with fail
    refine (pick26' C B a len cap [0, 1, 100, 101, 5000, 5001] 6 _ _ rfl (by omega) (by omega) _ HIa.out.1.1 hB HIa.out.1.2.1 (by omega) (by simp) HLI.out).mono ?_
    rintro e w4 ⟨y, rfl, _, hD⟩
    have h4 := HIa.out.on hD
    have k6 := row4c h4.2.2.1
    have HI4 : Hid (DOr _ _ _ _ _ _ _ _ _ _ _ _) := h4.put3 y
    clear hD HI2 HIa HLI h4 k2
    have kk := row4c HI4.out.2.2.1
    have kz := row4c HI4.out.2.1
    have HF : Hid (Drawn _ _ _ _ _ _ _) := HI4.out.done
    clear HI4
    go_wp2
    refine bodyPost_ret (v := ordV k n d y) (by simp [results, Try.results33, go_sem, kz, ordV]) rfl ⟨_, _, _, _, rfl, HF.out⟩
  · have HI4 : Hid (DOr w w2 C B a len cap w1.heap.size k n d v) := HI2.out
    clear HI2 k2
    have kk := row4c HI4.out.2.2.1
    have kz := row4c HI4.out.2.1
    have HF : Hid (Drawn _ _ _ _ _ _ _) := HI4.out.done
    clear HI4
    go_wp2
    refine bodyPost_ret (v := ordV k n d v) (by simp [results, Try.results33, go_sem, kz, ordV]) rfl ⟨_, _, _, _, rfl, HF.out⟩
end Go.Proofs.Ytpjnmkijndmemaa.I
