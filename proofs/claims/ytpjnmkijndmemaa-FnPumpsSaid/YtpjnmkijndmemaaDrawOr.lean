/-
  Drawn orders, right or not.
-/
import Derived.Test.YtpjnmkijndmemaaDrawIX
import Derived.Test.YtpjnmkijndmemaaOrd
namespace Go.Proofs.Ytpjnmkijndmemaa.I
open Go.RowKit Go.PlainAid
set_option linter.unusedVariables false

theorem row4c {w : World} {k : Nat} {t : TypeId} {x y z u : Value} (h : w.heap[k]? = some (.cells #[x, y, z, u] t)) :
    w.cell? ⟨k, 0, none⟩ = some x ∧ w.cell? ⟨k, 1, none⟩ = some y ∧ w.cell? ⟨k, 2, none⟩ = some z ∧ w.cell? ⟨k, 3, none⟩ = some u ∧ w.frozen? ⟨k, 0, none⟩ = false ∧ w.frozen? ⟨k, 1, none⟩ = false ∧ w.frozen? ⟨k, 2, none⟩ = false ∧ w.frozen? ⟨k, 3, none⟩ = false := by
  refine ⟨?_, ?_, ?_, ?_, ?_, ?_, ?_, ?_⟩ <;> simp [World.cell?, World.frozen?, h]

/-- what stands while an order is drawn: the answer's box and the order's -/
def DOr (w W : World) (C B : Nat) (a : Option Addr) (len cap : Nat) (k : Nat) (x y z u : Int) : Prop := Drawn w W C B a len cap ∧ W.heap[w.heap.size]? = some (.cells #[.int .i64 0, .int .i64 0, .int .i64 0, .int .i64 0] 30) ∧ W.heap[k]? = some (.cells #[.int .i64 x, .int .i64 y, .int .i64 z, .int .i64 u] 30) ∧ C < w.heap.size ∧ B ≤ C ∧ w.heap.size < k
theorem DOr.on {w W W' : World} {C B : Nat} {a : Option Addr} {len cap k : Nat} {x y z u : Int} (h : DOr w W C B a len cap k x y z u) (hD : Drawn W W' C B a len cap) : DOr w W' C B a len cap k x y z u := by
  obtain ⟨h1, h2, h3, h4, h5, h6⟩ := h
  exact ⟨drawn_trans h1 hD, row_drawn h2 hD.2.2 (by omega), row_drawn h3 hD.2.2 (by omega), h4, h5, h6⟩
theorem DOr.put0 {w W : World} {C B : Nat} {a : Option Addr} {len cap k : Nat} {x y z u : Int} (h : DOr w W C B a len cap k x y z u) (q : Int) : DOr w (W.setCell ⟨k, 0, none⟩ (.int .i64 q)) C B a len cap k q y z u := by
  obtain ⟨h1, h2, h3, h4, h5, h6⟩ := h
  exact ⟨drawn_put h1 _ _ (by omega) h4 h5, set_other h2 (by omega), set1_row h3, h4, h5, h6⟩
theorem DOr.put1 {w W : World} {C B : Nat} {a : Option Addr} {len cap k : Nat} {x y z u : Int} (h : DOr w W C B a len cap k x y z u) (q : Int) : DOr w (W.setCell ⟨k, 1, none⟩ (.int .i64 q)) C B a len cap k x q z u := by
  obtain ⟨h1, h2, h3, h4, h5, h6⟩ := h
  exact ⟨drawn_put h1 _ _ (by omega) h4 h5, set_other h2 (by omega), set1_row h3, h4, h5, h6⟩
theorem DOr.put2 {w W : World} {C B : Nat} {a : Option Addr} {len cap k : Nat} {x y z u : Int} (h : DOr w W C B a len cap k x y z u) (q : Int) : DOr w (W.setCell ⟨k, 2, none⟩ (.int .i64 q)) C B a len cap k x y q u := by
  obtain ⟨h1, h2, h3, h4, h5, h6⟩ := h
  exact ⟨drawn_put h1 _ _ (by omega) h4 h5, set_other h2 (by omega), set1_row h3, h4, h5, h6⟩
theorem DOr.put3 {w W : World} {C B : Nat} {a : Option Addr} {len cap k : Nat} {x y z u : Int} (h : DOr w W C B a len cap k x y z u) (q : Int) : DOr w (W.setCell ⟨k, 3, none⟩ (.int .i64 q)) C B a len cap k x y z q := by
  obtain ⟨h1, h2, h3, h4, h5, h6⟩ := h
  exact ⟨drawn_put h1 _ _ (by omega) h4 h5, set_other h2 (by omega), set1_row h3, h4, h5, h6⟩
theorem DOr.done {w W : World} {C B : Nat} {a : Option Addr} {len cap k : Nat} {x y z u : Int} (h : DOr w W C B a len cap k x y z u) : Drawn w ((((W.setCell ⟨w.heap.size, 0, none⟩ (.int .i64 x)).setCell ⟨w.heap.size, 1, none⟩ (.int .i64 y)).setCell ⟨w.heap.size, 2, none⟩ (.int .i64 z)).setCell ⟨w.heap.size, 3, none⟩ (.int .i64 u)) C B a len cap :=
  drawn_put (drawn_put (drawn_put (drawn_put h.1 0 _ (Nat.le_refl _) h.2.2.2.1 h.2.2.2.2.1) 1 _ (Nat.le_refl _) h.2.2.2.1 h.2.2.2.2.1) 2 _ (Nat.le_refl _) h.2.2.2.1 h.2.2.2.2.1) 3 _ (Nat.le_refl _) h.2.2.2.1 h.2.2.2.2.1

set_option maxRecDepth 100000 in
set_option maxHeartbeats 4000000 in
theorem orderD (C B : Nat) (a : Option Addr) (len cap : Nat) (w : World) (hC : Cur w C a len cap) (hB : B ≤ C) (hcode : CodeOk w B a len) :
    Calls Try.prog 51 #[.pointer (some ⟨C, 0, none⟩)] w fun e w' => ∃ k n d v : Int, e = .returned (ordV k n d v) ∧ Drawn w w' C B a len cap := by
  have hlt := cur_lt hC
  have HD0 : Hid (Drawn w (w.alloc (.cells #[.int .i64 0, .int .i64 0, .int .i64 0, .int .i64 0] 30)) C B a len cap) := drawn_alloc ⟨hC, hcode, World.grownBy.refl _ _⟩ (by omega) _
  have HZ0 : Hid ((w.alloc (.cells #[.int .i64 0, .int .i64 0, .int .i64 0, .int .i64 0] 30)).heap[w.heap.size]? = some (.cells #[.int .i64 0, .int .i64 0, .int .i64 0, .int .i64 0] 30)) := heap_new w _
  have HDa : Hid (∀ o, Drawn w ((w.alloc (.cells #[.int .i64 0, .int .i64 0, .int .i64 0, .int .i64 0] 30)).alloc o) C B a len cap) := fun o => drawn_alloc HD0.out (by simp; omega) o
  have HZa : Hid (∀ o, ((w.alloc (.cells #[.int .i64 0, .int .i64 0, .int .i64 0, .int .i64 0] 30)).alloc o).heap[w.heap.size]? = some (.cells #[.int .i64 0, .int .i64 0, .int .i64 0, .int .i64 0] 30)) := fun o => (Below.heap_alloc _ _ _ (row_lt HZ0.out)).trans HZ0.out
  have HLI : Hid _ := laid_ints1 w (.cells #[.int .i64 0, .int .i64 0, .int .i64 0, .int .i64 0] 30) [1, 1, 1, 2, 2, 3, 4, 5, 6]
  clear hC hcode HD0 HZ0
  go_enter Try.func51, Try.ntmps51
  go_wp2_with fail
  refine (pick26' C B a len cap [1, 1, 1, 2, 2, 3, 4, 5, 6] 9 _ _ rfl (by omega) (by omega) _ (HDa.out _).1 hB (HDa.out _).2.1 (by omega) (by simp) HLI.out).mono ?_
  rintro e w1 ⟨k, rfl, _, hD⟩
  have hs := hD.2.2.size
  have HD1 : Hid (Drawn w w1 C B a len cap) := drawn_trans (HDa.out _) hD
  have HZ1 : w1.heap[w.heap.size]? = some (.cells #[.int .i64 0, .int .i64 0, .int .i64 0, .int .i64 0] 30) := row_drawn (HZa.out _) hD.2.2 (by omega)
  have hs1 := row_lt HZ1
  have HI : Hid (DOr w (w1.alloc (.cells #[.int .i64 k, .int .i64 0, .int .i64 0, .int .i64 0] 30)) C B a len cap w1.heap.size k 0 0 0) :=
    ⟨drawn_alloc HD1.out (by omega) _, (Below.heap_alloc _ _ _ (by omega)).trans HZ1, heap_new w1 _, hlt, hB, by omega⟩
  have k1 := row4c HI.out.2.2.1
  have HKW : Hid _ := HZ1
  have HD2 : Hid _ := HD1.out
  clear hD HD1 HZ1 HDa HZa HLI
  have ways : k = 1 ∨ k = 2 ∨ ((k == 1) = false ∧ (k == 2) = false) := by
    by_cases h1 : k = 1
    · exact .inl h1
    · by_cases h2 : k = 2
      · exact .inr (.inl h2)
      · exact .inr (.inr ⟨by simpa using h1, by simpa using h2⟩)
  rcases ways with rfl | rfl | ⟨g1, g2⟩
  · go_wp2_with fail
    refine (below28 C B a len cap 9 (by omega) (by omega) _ HI.out.1.1 hB HI.out.1.2.1).mono ?_
    rintro e w2 ⟨d, rfl, d0, d1, hD⟩
    have h2 := HI.out.on hD
    have k2 := row4c h2.2.2.1
    have HI2 : Hid (DOr _ _ _ _ _ _ _ _ _ _ _ _) := h2.put2 (1 + d)
    have k3 := row4c HI2.out.2.2.1
    clear hD HI h2 k1
    go_wp2_with fail
    refine (below28 C B a len cap (3 * (1 + d)) (by omega) (by omega) _ HI2.out.1.1 hB HI2.out.1.2.1).mono ?_
    rintro e w3 ⟨n, rfl, n0, n1, hD⟩
    have h3 := HI2.out.on hD
    have k4 := row4c h3.2.2.1
    have HI3 : Hid (DOr _ _ _ _ _ _ _ _ _ _ _ _) := h3.put1 (1 + n)
    have k5 := row4c HI3.out.2.2.1
    clear hD HI2 h3 k2 k3
    go_wp2_with fail
    refine (below28 C B a len cap 60 (by omega) (by omega) _ HI3.out.1.1 hB HI3.out.1.2.1).mono ?_
    rintro e w4 ⟨v, rfl, v0, v1, hD⟩
    have h4 := HI3.out.on hD
    have k6 := row4c h4.2.2.1
    have HI4 : Hid (DOr _ _ _ _ _ _ _ _ _ _ _ _) := h4.put3 (1 + v)
    have kk := row4c HI4.out.2.2.1
    have kz := row4c HI4.out.2.1
    have HF : Hid (Drawn _ _ _ _ _ _ _) := HI4.out.done
    clear hD HI3 h4 k4 k5 HI4
    go_wp2
    refine bodyPost_ret (v := ordV 1 (1 + n) (1 + d) (1 + v)) (by simp [results, Try.results51, go_sem, kz, ordV]) rfl ⟨_, _, _, _, rfl, HF.out⟩
  · go_wp2_with fail
    refine (below28 C B a len cap 40 (by omega) (by omega) _ HI.out.1.1 hB HI.out.1.2.1).mono ?_
    rintro e w4 ⟨v, rfl, v0, v1, hD⟩
    have h4 := HI.out.on hD
    have k6 := row4c h4.2.2.1
    have HI4 : Hid (DOr _ _ _ _ _ _ _ _ _ _ _ _) := h4.put3 (1 + v)
    have kk := row4c HI4.out.2.2.1
    have kz := row4c HI4.out.2.1
    have HF : Hid (Drawn _ _ _ _ _ _ _) := HI4.out.done
    clear hD HI h4 k1 HI4
    go_wp2
    refine bodyPost_ret (v := ordV 2 0 0 (1 + v)) (by simp [results, Try.results51, go_sem, kz, ordV]) rfl ⟨_, _, _, _, rfl, HF.out⟩
  · have ha : Drawn w ((((w1.setCell ⟨w.heap.size, 0, none⟩ (.int .i64 k)).setCell ⟨w.heap.size, 1, none⟩ (.int .i64 0)).setCell ⟨w.heap.size, 2, none⟩ (.int .i64 0)).setCell ⟨w.heap.size, 3, none⟩ (.int .i64 0)) C B a len cap := drawn_put (drawn_put (drawn_put (drawn_put HD2.out 0 _ (Nat.le_refl _) hlt hB) 1 _ (Nat.le_refl _) hlt hB) 2 _ (Nat.le_refl _) hlt hB) 3 _ (Nat.le_refl _) hlt hB
    have hr : ((((w1.setCell ⟨w.heap.size, 0, none⟩ (.int .i64 k)).setCell ⟨w.heap.size, 1, none⟩ (.int .i64 0)).setCell ⟨w.heap.size, 2, none⟩ (.int .i64 0)).setCell ⟨w.heap.size, 3, none⟩ (.int .i64 0)).heap[w.heap.size]? = some (.cells #[.int .i64 k, .int .i64 0, .int .i64 0, .int .i64 0] 30) := set1_row (set1_row (set1_row (set1_row HKW.out)))
    have hb := ha.2.2.size
    have HF : Hid (∀ o, Drawn w (((((w1.setCell ⟨w.heap.size, 0, none⟩ (.int .i64 k)).setCell ⟨w.heap.size, 1, none⟩ (.int .i64 0)).setCell ⟨w.heap.size, 2, none⟩ (.int .i64 0)).setCell ⟨w.heap.size, 3, none⟩ (.int .i64 0)).alloc o) C B a len cap) := fun o => drawn_alloc ha (by omega) o
    have HR : Hid (∀ o, (((((w1.setCell ⟨w.heap.size, 0, none⟩ (.int .i64 k)).setCell ⟨w.heap.size, 1, none⟩ (.int .i64 0)).setCell ⟨w.heap.size, 2, none⟩ (.int .i64 0)).setCell ⟨w.heap.size, 3, none⟩ (.int .i64 0)).alloc o).heap[w.heap.size]? = some (.cells #[.int .i64 k, .int .i64 0, .int .i64 0, .int .i64 0] 30)) := fun o => (Below.heap_alloc _ _ _ (row_lt hr)).trans hr
    have kz := row4c HKW.out
    clear HI HKW HD2 ha hr hb
    go_wp2
    obtain ⟨q0, q1, q2, q3, _⟩ := row4c (HR.out (.cells #[.int .i64 k, .int .i64 0, .int .i64 0, .int .i64 0] 30))
    refine bodyPost_ret (v := ordV k 0 0 0) (by simp only [results, Try.results51]; simp [go_sem, q0, q1, q2, q3, ordV]) rfl ⟨_, _, _, _, rfl, HF.out _⟩

end Go.Proofs.Ytpjnmkijndmemaa.I
