/-
  A drawn rate, right or not.
-/
import Derived.Test.YtpjnmkijndmemaaDrawOp
import Derived.Test.YtpjnmkijndmemaaRat15
import Derived.Test.YtpjnmkijndmemaaSpTk0
namespace Go.Proofs.Ytpjnmkijndmemaa.I
open Go.RowKit Go.PlainAid
set_option linter.unusedVariables false
set_option linter.unusedSimpArgs false

/-- what stands while a rate is drawn: the cursor, the result's block, the rate's block -/
def RLive (w W : World) (C B : Nat) (a : Option Addr) (len cap : Nat) (K : Nat) (n d r : Int) : Prop :=
  Drawn w W C B a len cap ∧ W.heap[w.heap.size]? = some (.cells #[.int .i64 0, .int .i64 0, .int .i64 0] 25) ∧ W.heap[K]? = some (.cells #[.int .i64 n, .int .i64 d, .int .i64 r] 25)

theorem rlive_draw {w W W' : World} {C B : Nat} {a : Option Addr} {len cap K : Nat} {n d r : Int} (h : RLive w W C B a len cap K n d r) (hD : Drawn W W' C B a len cap) (hC : C < w.heap.size) (hK : w.heap.size < K) : RLive w W' C B a len cap K n d r :=
  ⟨drawn_trans h.1 hD, row_drawn h.2.1 hD.2.2 (by omega), row_drawn h.2.2 hD.2.2 (by omega)⟩
theorem rlive_alloc {w W : World} {C B : Nat} {a : Option Addr} {len cap K : Nat} {n d r : Int} (h : RLive w W C B a len cap K n d r) (hB : B ≤ w.heap.size) (o : Obj) : RLive w (W.alloc o) C B a len cap K n d r :=
  ⟨drawn_alloc h.1 (Nat.le_trans hB h.1.2.2.size) o, (Below.heap_alloc W o _ (row_lt h.2.1)).trans h.2.1, (Below.heap_alloc W o _ (row_lt h.2.2)).trans h.2.2⟩

set_option maxRecDepth 100000 in
set_option maxHeartbeats 2000000 in
theorem rate11 (C B : Nat) (a : Option Addr) (len cap : Nat) (w : World) (hC : Cur w C a len cap) (hB : B ≤ C) (hcode : CodeOk w B a len) :
    Calls Try.prog 53 #[.pointer (some ⟨C, 0, none⟩)] w fun e w' => ∃ n d r : Int, e = .returned (.agg #[.int .i64 n, .int .i64 d, .int .i64 r]) ∧ Drawn w w' C B a len cap := by
  have hlt := cur_lt hC
  have HD0 : Hid (Drawn w (w.alloc (.cells #[.int .i64 0, .int .i64 0, .int .i64 0] 25)) C B a len cap) := drawn_alloc ⟨hC, hcode, World.grownBy.refl _ _⟩ (by omega) _
  have HR0 : Hid ((w.alloc (.cells #[.int .i64 0, .int .i64 0, .int .i64 0] 25)).heap[w.heap.size]? = _) := heap_new w _
  clear hC hcode
  go_enter Try.func53, Try.ntmps53
  go_wp2_with fail
  refine (below28 C B a len cap 60 (by omega) (by omega) _ HD0.out.1 hB HD0.out.2.1).mono ?_
  rintro e w1 ⟨n, rfl, n0, n1, hD⟩
  have HD1 : Hid (Drawn w w1 C B a len cap) := drawn_trans HD0.out hD
  have HR1 : Hid (w1.heap[w.heap.size]? = _) := row_drawn HR0.out hD.2.2 (by omega)
  clear hD HD0 HR0
  go_wp2_with fail
  refine (below28 C B a len cap 40 (by omega) (by omega) _ HD1.out.1 hB HD1.out.2.1).mono ?_
  rintro e w2 ⟨d1, rfl, d0, d2, hD⟩
  have HD2 : Hid (Drawn w w2 C B a len cap) := drawn_trans HD1.out hD
  have HR2 : Hid (w2.heap[w.heap.size]? = _) := row_drawn HR1.out hD.2.2 (by omega)
  clear hD HD1 HR1
  have l2 := row_lt HR2.out
  have HL : Hid (RLive w (w2.alloc (.cells #[.int .i64 n, .int .i64 (1 + d1), .int .i64 0] 25)) C B a len cap w2.heap.size n (1 + d1) 0) :=
    ⟨drawn_alloc HD2.out (by omega) _, (Below.heap_alloc w2 _ _ l2).trans HR2.out, heap_new w2 _⟩
  clear HD2 HR2
  have kA := rat_cells HL.out.2.2
  go_wp2_with fail
  refine (below28 C B a len cap (1 + d1) (by omega) (by omega) _ HL.out.1.1 hB HL.out.1.2.1).mono ?_
  rintro e w3 ⟨r, rfl, ra, rb, hD⟩
  have HL3 : Hid (RLive w w3 C B a len cap w2.heap.size n (1 + d1) 0) := rlive_draw HL.out hD hlt l2
  have k3 := rat_cells HL3.out.2.2
  clear hD HL kA
  have HL4 : Hid (RLive w (w3.setCell ⟨w2.heap.size, 2, none⟩ (.int .i64 r)) C B a len cap w2.heap.size n (1 + d1) r) :=
    ⟨drawn_put HL3.out.1 2 _ (by omega) hlt hB, (Below.heap_setCell _ _ _ _ (by show _ ≠ w2.heap.size; omega)).trans HL3.out.2.1, set_rowP HL3.out.2.2 2 _⟩
  go_wp2_with fail
  refine (below28 C B a len cap 16 (by omega) (by omega) _ HL4.out.1.1 hB HL4.out.1.2.1).mono ?_
  rintro e w5 ⟨x, rfl, xa, xb, hD⟩
  have HL5 : Hid (RLive w w5 C B a len cap w2.heap.size n (1 + d1) r) := rlive_draw HL4.out hD hlt l2
  clear hD HL3 HL4 k3
  by_cases h0 : (x == 0) = true
  · have HA : Hid (∀ o, RLive w (w5.alloc o) C B a len cap w2.heap.size n (1 + d1) r) := fun o => rlive_alloc HL5.out (by omega) o
    have HLI : Hid _ := laid_ints w5 [-1, 1000000, 1000001]
    have s5 := row_lt HL5.out.2.2
    have kx := rat_cells HL5.out.2.2
    go_wp2_with fail
    refine (pick26' C B a len cap [-1, 1000000, 1000001] 3 _ _ rfl (by omega) (by omega) _ (HA.out _).1.1 hB (HA.out _).1.2.1 (by omega) (by simp) HLI.out).mono ?_
    rintro e w6 ⟨y, rfl, hy, hD⟩
    have HL6 : Hid (RLive w w6 C B a len cap w2.heap.size n (1 + d1) r) := rlive_draw (HA.out _) hD hlt l2
    clear hD hy HA HLI HL5 kx
    have k6 := rat_cells HL6.out.2.2
    have k0 := rat_cells HL6.out.2.1
    have ne1 : ¬ w.heap.size = w2.heap.size := by omega
    have ne2 : ¬ w2.heap.size = w.heap.size := by omega
    go_wp2
    refine bodyPost_ret (v := .agg #[.int .i64 y, .int .i64 (1 + d1), .int .i64 r]) (by simp [results, Try.results53, go_sem, k0]) rfl ⟨_, _, _, rfl, ?_⟩
    exact drawn_put (drawn_put (drawn_put (drawn_put HL6.out.1 0 _ (by omega) hlt hB) 0 _ (Nat.le_refl _) hlt hB) 1 _ (Nat.le_refl _) hlt hB) 2 _ (Nat.le_refl _) hlt hB
  · have h0' : (x == 0) = false := by simpa using h0
    clear h0
    by_cases h1 : (x == 1) = true
    · have HA : Hid (∀ o, RLive w (w5.alloc o) C B a len cap w2.heap.size n (1 + d1) r) := fun o => rlive_alloc HL5.out (by omega) o
      have HLI : Hid _ := laid_ints w5 [0, 1, 1000000, 1000001]
      have s5 := row_lt HL5.out.2.2
      have kx := rat_cells HL5.out.2.2
      go_wp2_with fail
      refine (pick26' C B a len cap [0, 1, 1000000, 1000001] 4 _ _ rfl (by omega) (by omega) _ (HA.out _).1.1 hB (HA.out _).1.2.1 (by omega) (by simp) HLI.out).mono ?_
      rintro e w6 ⟨y, rfl, hy, hD⟩
      have HL6 : Hid (RLive w w6 C B a len cap w2.heap.size n (1 + d1) r) := rlive_draw (HA.out _) hD hlt l2
      clear hD hy HA HLI HL5 kx
      have k6 := rat_cells HL6.out.2.2
      have k0 := rat_cells HL6.out.2.1
      have ne1 : ¬ w.heap.size = w2.heap.size := by omega
      have ne2 : ¬ w2.heap.size = w.heap.size := by omega
      go_wp2
      refine bodyPost_ret (v := .agg #[.int .i64 n, .int .i64 y, .int .i64 r]) (by simp [results, Try.results53, go_sem, k0]) rfl ⟨_, _, _, rfl, ?_⟩
      exact drawn_put (drawn_put (drawn_put (drawn_put HL6.out.1 1 _ (by omega) hlt hB) 0 _ (Nat.le_refl _) hlt hB) 1 _ (Nat.le_refl _) hlt hB) 2 _ (Nat.le_refl _) hlt hB
    · have h1' : (x == 1) = false := by simpa using h1
      clear h1
      by_cases h2 : (x == 2) = true
      · have HA : Hid (∀ o, RLive w (w5.alloc o) C B a len cap w2.heap.size n (1 + d1) r) := fun o => rlive_alloc HL5.out (by omega) o
        have HLI : Hid _ := laid_ints w5 [-1, 1 + d1]
        have s5 := row_lt HL5.out.2.2
        have kx := rat_cells HL5.out.2.2
        go_wp2_with fail
        refine (pick26' C B a len cap [-1, 1 + d1] 2 _ _ rfl (by omega) (by omega) _ (HA.out _).1.1 hB (HA.out _).1.2.1 (by omega) (by simp) HLI.out).mono ?_
        rintro e w6 ⟨y, rfl, hy, hD⟩
        have HL6 : Hid (RLive w w6 C B a len cap w2.heap.size n (1 + d1) r) := rlive_draw (HA.out _) hD hlt l2
        clear hD hy HA HLI HL5 kx
        have k6 := rat_cells HL6.out.2.2
        have k0 := rat_cells HL6.out.2.1
        have ne1 : ¬ w.heap.size = w2.heap.size := by omega
        have ne2 : ¬ w2.heap.size = w.heap.size := by omega
        go_wp2
        refine bodyPost_ret (v := .agg #[.int .i64 n, .int .i64 (1 + d1), .int .i64 y]) (by simp [results, Try.results53, go_sem, k0]) rfl ⟨_, _, _, rfl, ?_⟩
        exact drawn_put (drawn_put (drawn_put (drawn_put HL6.out.1 2 _ (by omega) hlt hB) 0 _ (Nat.le_refl _) hlt hB) 1 _ (Nat.le_refl _) hlt hB) 2 _ (Nat.le_refl _) hlt hB
      · have h2' : (x == 2) = false := by simpa using h2
        clear h2
        have k6 := rat_cells HL5.out.2.2
        have k0 := rat_cells HL5.out.2.1
        have ne1 : ¬ w.heap.size = w2.heap.size := by omega
        have ne2 : ¬ w2.heap.size = w.heap.size := by omega
        go_wp2
        refine bodyPost_ret (v := .agg #[.int .i64 n, .int .i64 (1 + d1), .int .i64 r]) (by simp [results, Try.results53, go_sem, k0]) rfl ⟨_, _, _, rfl, ?_⟩
        exact drawn_put (drawn_put (drawn_put (HL5.out.1) 0 _ (Nat.le_refl _) hlt hB) 1 _ (Nat.le_refl _) hlt hB) 2 _ (Nat.le_refl _) hlt hB

end Go.Proofs.Ytpjnmkijndmemaa.I
