/-
  What is past goes round: with, ago, list, pastOf of the program.
-/
import Derived.Test.YtgpdkodnggpkeaaGdIa
namespace Go.Proofs.Ytgpdkodnggpkeaa
open Go.RowKit Go.PlainAid
set_option linter.unusedVariables false
set_option linter.unusedSimpArgs false

def putA (A : Nat → Int) (k : Nat) (v : Int) : Nat → Int := fun i => if i = k then v else A i
def Ring (l : List Int) (A : Nat → Int) (N M : Nat) : Prop := N < 9 ∧ l.length = M ∧ M ≤ 9 ∧ ∀ i (h : i < l.length), A ((N + 9 - (i + 1)) % 9) = l[i]
theorem ring_nil : Ring [] (fun _ => 0) 0 0 := ⟨by omega, rfl, by omega, fun i h => by simp at h⟩
theorem ring_put {l : List Int} {A : Nat → Int} {N M : Nat} (h : Ring l A N M) (v : Int) : Ring ((v :: l).take 9) (putA A N v) ((N + 1) % 9) (min (M + 1) 9) := by
  obtain ⟨h1, h2, h3, h4⟩ := h
  refine ⟨by omega, by simp; omega, by omega, fun i hi => ?_⟩
  have hi9 : i < 9 := by simp at hi; omega
  have hil : i < l.length + 1 := by simp at hi; omega
  rw [List.getElem_take]
  unfold putA
  cases i with
  | zero => rw [if_pos (by omega)]; rfl
  | succ i =>
    rw [if_neg (by omega), List.getElem_cons_succ, ← h4 i (by omega)]
    congr 1
    omega
theorem row11_cells {w : World} {k : Nat} {t : TypeId} {u0 u1 u2 u3 u4 u5 u6 u7 u8 u9 u10 : Value} (h : w.heap[k]? = some (.cells #[u0, u1, u2, u3, u4, u5, u6, u7, u8, u9, u10] t)) :
    w.cell? ⟨k, 0, none⟩ = some u0 ∧ w.cell? ⟨k, 1, none⟩ = some u1 ∧ w.cell? ⟨k, 2, none⟩ = some u2 ∧ w.cell? ⟨k, 3, none⟩ = some u3 ∧ w.cell? ⟨k, 4, none⟩ = some u4 ∧ w.cell? ⟨k, 5, none⟩ = some u5 ∧ w.cell? ⟨k, 6, none⟩ = some u6 ∧ w.cell? ⟨k, 7, none⟩ = some u7 ∧ w.cell? ⟨k, 8, none⟩ = some u8 ∧ w.cell? ⟨k, 9, none⟩ = some u9 ∧ w.cell? ⟨k, 10, none⟩ = some u10 ∧ w.frozen? ⟨k, 0, none⟩ = false ∧ w.frozen? ⟨k, 1, none⟩ = false ∧ w.frozen? ⟨k, 2, none⟩ = false ∧ w.frozen? ⟨k, 3, none⟩ = false ∧ w.frozen? ⟨k, 4, none⟩ = false ∧ w.frozen? ⟨k, 5, none⟩ = false ∧ w.frozen? ⟨k, 6, none⟩ = false ∧ w.frozen? ⟨k, 7, none⟩ = false ∧ w.frozen? ⟨k, 8, none⟩ = false ∧ w.frozen? ⟨k, 9, none⟩ = false ∧ w.frozen? ⟨k, 10, none⟩ = false := by
  refine ⟨?_, ?_, ?_, ?_, ?_, ?_, ?_, ?_, ?_, ?_, ?_, ?_, ?_, ?_, ?_, ?_, ?_, ?_, ?_, ?_, ?_, ?_⟩ <;> simp [World.cell?, World.frozen?, h]
/-- eleven numbers stored into a row, as one -/
theorem listStoreT {ops : Array Oper} {rest : List Oper} {o : Oper} {a : Act} {Q : Exit → Act → World → Prop} {w : World} (hgd : o.guard = none) (hd : o.dst = none) (x y : Operand) (ty : TypeId) (ho : o.op = .store ty x y) (hty : ty = 51)
    (g : Nat) (z0 z1 z2 z3 z4 z5 z6 z7 z8 z9 z10 : Int) (hx : a.eval x = .pointer (some ⟨g, 0, none⟩)) (hy : a.eval y = .agg #[.int .i64 z0, .int .i64 z1, .int .i64 z2, .int .i64 z3, .int .i64 z4, .int .i64 z5, .int .i64 z6, .int .i64 z7, .int .i64 z8, .int .i64 z9, .int .i64 z10])
    {u0 u1 u2 u3 u4 u5 u6 u7 u8 u9 u10 : Value} (hg : w.heap[g]? = some (.cells #[u0, u1, u2, u3, u4, u5, u6, u7, u8, u9, u10] 51))
    (h : ∀ w' : World, PutG w w' g (.cells #[.int .i64 z0, .int .i64 z1, .int .i64 z2, .int .i64 z3, .int .i64 z4, .int .i64 z5, .int .i64 z6, .int .i64 z7, .int .i64 z8, .int .i64 z9, .int .i64 z10] 51) → wpList Try.prog ops Q rest a w') : wpList Try.prog ops Q (o :: rest) a w := by
  subst hty
  refine wpList_store_rowTo hgd _ x y ho hd g _ hx hy _ _ hg (by kernel_rfl) rfl (by kernel_rfl) ?_
  refine h _ ⟨setRow_heap w g _ _ _ _ hg, fun k hk => setRow_other w g k _ hk, setRow_size w g _, fun B W hB hb => ?_⟩
  exact ⟨hb.os, hb.tape, hb.output, by rw [setRow_size]; exact hb.size, fun k hk => by rw [setRow_other w g k _ (by omega)]; exact hb.block k hk⟩
theorem row_put (A : Nat → Int) (N M : Int) (k : Nat) (hk : k < 9) (v : Int) : (#[.int .i64 (A 0), .int .i64 (A 1), .int .i64 (A 2), .int .i64 (A 3), .int .i64 (A 4), .int .i64 (A 5), .int .i64 (A 6), .int .i64 (A 7), .int .i64 (A 8), .int .i64 N, .int .i64 M] : Array Value).setIfInBounds k (.int .i64 v) = #[.int .i64 ((putA A k v) 0), .int .i64 ((putA A k v) 1), .int .i64 ((putA A k v) 2), .int .i64 ((putA A k v) 3), .int .i64 ((putA A k v) 4), .int .i64 ((putA A k v) 5), .int .i64 ((putA A k v) 6), .int .i64 ((putA A k v) 7), .int .i64 ((putA A k v) 8), .int .i64 N, .int .i64 M] := by
  have : k = 0 ∨ k = 1 ∨ k = 2 ∨ k = 3 ∨ k = 4 ∨ k = 5 ∨ k = 6 ∨ k = 7 ∨ k = 8 := by omega
  rcases this with rfl | rfl | rfl | rfl | rfl | rfl | rfl | rfl | rfl <;> rfl
theorem row_at {w : World} {g : Nat} {A : Nat → Int} {N M : Int} {t : TypeId} (h : w.heap[g]? = some (.cells #[.int .i64 (A 0), .int .i64 (A 1), .int .i64 (A 2), .int .i64 (A 3), .int .i64 (A 4), .int .i64 (A 5), .int .i64 (A 6), .int .i64 (A 7), .int .i64 (A 8), .int .i64 N, .int .i64 M] t)) (k : Nat) (hk : k < 9) : w.cell? ⟨g, k, none⟩ = some (.int .i64 (A k)) := by
  have : k = 0 ∨ k = 1 ∨ k = 2 ∨ k = 3 ∨ k = 4 ∨ k = 5 ∨ k = 6 ∨ k = 7 ∨ k = 8 := by omega
  rcases this with rfl | rfl | rfl | rfl | rfl | rfl | rfl | rfl | rfl <;> simp [World.cell?, h]
theorem box11b (w : World) (o p : Obj) :
    ((w.alloc o).alloc p).heap[w.heap.size]? = some o ∧ ((w.alloc o).alloc p).heap[w.heap.size + 1]? = some p ∧ Below w.heap.size w ((w.alloc o).alloc p) ∧ ((w.alloc o).alloc p).heap.size = w.heap.size + 2 := by
  have h0 := heap_new w o
  have h1 := heap_new (w.alloc o) p
  refine ⟨(Below.heap_alloc _ _ _ (by simp)).trans h0, by simpa using h1, ((Below.refl _ _).alloc (Nat.le_refl _) _).alloc (by simp) _, by simp⟩
set_option maxRecDepth 100000 in
set_option maxHeartbeats 2000000 in
theorem withI (A : Nat → Int) (N M : Nat) (v : Int) (hN : N < 9) (hM : M ≤ 9) (w : World) :
    Calls Try.prog 37 #[.agg #[.int .i64 (A 0), .int .i64 (A 1), .int .i64 (A 2), .int .i64 (A 3), .int .i64 (A 4), .int .i64 (A 5), .int .i64 (A 6), .int .i64 (A 7), .int .i64 (A 8), .int .i64 (N : Int), .int .i64 (M : Int)], .int .i64 v] w fun e w' => e = .returned (.agg #[.int .i64 ((putA A N v) 0), .int .i64 ((putA A N v) 1), .int .i64 ((putA A N v) 2), .int .i64 ((putA A N v) 3), .int .i64 ((putA A N v) 4), .int .i64 ((putA A N v) 5), .int .i64 ((putA A N v) 6), .int .i64 ((putA A N v) 7), .int .i64 ((putA A N v) 8), .int .i64 (((N + 1) % 9 : Nat) : Int), .int .i64 ((min (M + 1) 9 : Nat) : Int)]) ∧ Below w.heap.size w w' := by
  obtain ⟨h1, h2, h3, h4⟩ := box11b w (.cells #[.int .i64 (A 0), .int .i64 (A 1), .int .i64 (A 2), .int .i64 (A 3), .int .i64 (A 4), .int .i64 (A 5), .int .i64 (A 6), .int .i64 (A 7), .int .i64 (A 8), .int .i64 (N : Int), .int .i64 (M : Int)] 51) (.cells #[.int .i64 0, .int .i64 0, .int .i64 0, .int .i64 0, .int .i64 0, .int .i64 0, .int .i64 0, .int .i64 0, .int .i64 0, .int .i64 0, .int .i64 0] 51)
  have HP0 : Hid (_ = _) := h1
  have HZ0 : Hid (_ = _) := h2
  have HB0 : Hid (Below _ _ _) := h3
  have p0 := row11_cells h1
  clear h1 h2 h3 h4
  have n0 : (0 : Int) ≤ N := by omega
  have n9 : (N : Int) < 9 := by omega
  obtain ⟨A', hA'⟩ : ∃ A', putA A N v = A' := ⟨_, rfl⟩
  obtain ⟨N', hN'⟩ : ∃ N', (N + 1) % 9 = N' := ⟨_, rfl⟩
  obtain ⟨M', hM'⟩ : ∃ M', min (M + 1) 9 = M' := ⟨_, rfl⟩
  rw [hA', hN', hM']
  have q1 : IntKind.i64.wrap ((N : Int) + 1) = (N : Int) + 1 := wrap_in (by omega) (by omega)
  have q2 : ((N : Int) + 1).tmod 9 = (N' : Int) := by rw [Int.tmod_eq_emod_of_nonneg (by omega)]; omega
  have q3 : IntKind.i64.wrap ((M : Int) + 1) = (M : Int) + 1 := wrap_in (by omega) (by omega)
  go_enter Try.func37, Try.ntmps37
  go_upto_region 1 with fail
  go_wp2_with (refine listStoreI rfl rfl _ _ _ rfl rfl w.heap.size N v rfl rfl HP0.out (by simp; omega) ?_)
  intro w1 hput
  have HB1 : Hid (Below w.heap.size w w1) := hput.2.2.2 _ _ (Nat.le_refl _) HB0.out
  have HZ1 : Hid (w1.heap[w.heap.size + 1]? = some (.cells #[.int .i64 0, .int .i64 0, .int .i64 0, .int .i64 0, .int .i64 0, .int .i64 0, .int .i64 0, .int .i64 0, .int .i64 0, .int .i64 0, .int .i64 0] 51)) := hput.far HZ0.out (by omega)
  have HP1 : Hid (w1.heap[w.heap.size]? = some (.cells #[.int .i64 (A' 0), .int .i64 (A' 1), .int .i64 (A' 2), .int .i64 (A' 3), .int .i64 (A' 4), .int .i64 (A' 5), .int .i64 (A' 6), .int .i64 (A' 7), .int .i64 (A' 8), .int .i64 (N : Int), .int .i64 (M : Int)] 51)) := by have h := hput.1; rw [row_put A N M N hN v, hA'] at h; exact h
  have p1 := row11_cells HP1.out
  clear hput HB0 HZ0 HP0 p0
  go_upto_region 2 with fail
  go_wp2_with (refine listStoreI rfl rfl _ _ _ rfl rfl w.heap.size 9 N' rfl rfl HP1.out (by simp) ?_)
  intro w2 hput
  have HB2 : Hid (Below w.heap.size w w2) := hput.2.2.2 _ _ (Nat.le_refl _) HB1.out
  have HZ2 : Hid (w2.heap[w.heap.size + 1]? = some (.cells #[.int .i64 0, .int .i64 0, .int .i64 0, .int .i64 0, .int .i64 0, .int .i64 0, .int .i64 0, .int .i64 0, .int .i64 0, .int .i64 0, .int .i64 0] 51)) := hput.far HZ1.out (by omega)
  have HP2 : Hid (w2.heap[w.heap.size]? = some (.cells #[.int .i64 (A' 0), .int .i64 (A' 1), .int .i64 (A' 2), .int .i64 (A' 3), .int .i64 (A' 4), .int .i64 (A' 5), .int .i64 (A' 6), .int .i64 (A' 7), .int .i64 (A' 8), .int .i64 (N' : Int), .int .i64 (M : Int)] 51)) := hput.1
  have p2 := row11_cells HP2.out
  clear hput HB1 HZ1 HP1 p1
  go_upto_region 3 with fail
  by_cases h9 : M < 9
  · obtain rfl : M + 1 = M' := by omega
    have h9' : (M : Int) + 1 ≤ 9 := by omega
    have h9'' : ¬ (9 : Int) < (M : Int) + 1 := by omega
    go_wp2_with (refine listStoreI rfl rfl _ _ _ rfl rfl w.heap.size 10 ((M : Int) + 1) rfl rfl HP2.out (by simp) ?_)
    intro w3 hput
    have HB3 : Hid (Below w.heap.size w w3) := hput.2.2.2 _ _ (Nat.le_refl _) HB2.out
    have HZ3 : Hid (w3.heap[w.heap.size + 1]? = some (.cells #[.int .i64 0, .int .i64 0, .int .i64 0, .int .i64 0, .int .i64 0, .int .i64 0, .int .i64 0, .int .i64 0, .int .i64 0, .int .i64 0, .int .i64 0] 51)) := hput.far HZ2.out (by omega)
    have HP3 : Hid (w3.heap[w.heap.size]? = some (.cells #[.int .i64 (A' 0), .int .i64 (A' 1), .int .i64 (A' 2), .int .i64 (A' 3), .int .i64 (A' 4), .int .i64 (A' 5), .int .i64 (A' 6), .int .i64 (A' 7), .int .i64 (A' 8), .int .i64 N', .int .i64 ((M : Int) + 1)] 51)) := hput.1
    have p3 := row11_cells HP3.out
    clear hput HB2 HZ2 HP2 p2
    go_upto_region 4 with fail
    go_wp2_with (refine listStoreT rfl rfl _ _ _ rfl rfl (w.heap.size + 1) (A' 0) (A' 1) (A' 2) (A' 3) (A' 4) (A' 5) (A' 6) (A' 7) (A' 8) N' ((M : Int) + 1) rfl rfl HZ3.out ?_)
    intro w4 hput
    have HB4 : Hid (Below w.heap.size w w4) := hput.2.2.2 _ _ (Nat.le_succ _) HB3.out
    have z := row11_cells hput.1
    clear hput
    go_wp2
    refine bodyPost_ret (v := .agg #[.int .i64 (A' 0), .int .i64 (A' 1), .int .i64 (A' 2), .int .i64 (A' 3), .int .i64 (A' 4), .int .i64 (A' 5), .int .i64 (A' 6), .int .i64 (A' 7), .int .i64 (A' 8), .int .i64 N', .int .i64 ((M : Int) + 1)]) (by simp only [results, Try.results37]; simp [go_sem, z]) rfl ⟨rfl, HB4.out⟩
  · obtain rfl : M = 9 := by omega
    obtain rfl : 9 = M' := by omega
    go_wp2_with (refine listStoreI rfl rfl _ _ _ rfl rfl w.heap.size 10 9 rfl rfl HP2.out (by simp) ?_)
    intro w3 hput
    have HB3 : Hid (Below w.heap.size w w3) := hput.2.2.2 _ _ (Nat.le_refl _) HB2.out
    have HZ3 : Hid (w3.heap[w.heap.size + 1]? = some (.cells #[.int .i64 0, .int .i64 0, .int .i64 0, .int .i64 0, .int .i64 0, .int .i64 0, .int .i64 0, .int .i64 0, .int .i64 0, .int .i64 0, .int .i64 0] 51)) := hput.far HZ2.out (by omega)
    have HP3 : Hid (w3.heap[w.heap.size]? = some (.cells #[.int .i64 (A' 0), .int .i64 (A' 1), .int .i64 (A' 2), .int .i64 (A' 3), .int .i64 (A' 4), .int .i64 (A' 5), .int .i64 (A' 6), .int .i64 (A' 7), .int .i64 (A' 8), .int .i64 N', .int .i64 9] 51)) := hput.1
    have p3 := row11_cells HP3.out
    clear hput HB2 HZ2 HP2 p2
    go_upto_region 4 with fail
    go_wp2_with (refine listStoreT rfl rfl _ _ _ rfl rfl (w.heap.size + 1) (A' 0) (A' 1) (A' 2) (A' 3) (A' 4) (A' 5) (A' 6) (A' 7) (A' 8) N' 9 rfl rfl HZ3.out ?_)
    intro w4 hput
    have HB4 : Hid (Below w.heap.size w w4) := hput.2.2.2 _ _ (Nat.le_succ _) HB3.out
    have z := row11_cells hput.1
    clear hput
    go_wp2
    refine bodyPost_ret (v := .agg #[.int .i64 (A' 0), .int .i64 (A' 1), .int .i64 (A' 2), .int .i64 (A' 3), .int .i64 (A' 4), .int .i64 (A' 5), .int .i64 (A' 6), .int .i64 (A' 7), .int .i64 (A' 8), .int .i64 N', .int .i64 9]) (by simp only [results, Try.results37]; simp [go_sem, z]) rfl ⟨rfl, HB4.out⟩
end Go.Proofs.Ytgpdkodnggpkeaa
