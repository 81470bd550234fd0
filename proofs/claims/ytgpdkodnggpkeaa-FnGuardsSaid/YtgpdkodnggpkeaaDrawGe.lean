/-
  A drawn guard, from bytes.
-/
import Derived.Test.YtgpdkodnggpkeaaDrawGd
namespace Go.Proofs.Ytgpdkodnggpkeaa.D
open Go.RowKit Go.PlainAid
set_option linter.unusedVariables false
set_option linter.unusedSimpArgs false

theorem GOwn.mono {W : World} {B B' : Nat} {q : Option Addr} {n c : Nat} {l : List Int} (h : GOwn W B q n c l) (hB : B' ≤ B) : GOwn W B' q n c l := by
  rcases h with h | ⟨g, rfl, h⟩
  · exact .inl h
  · exact .inr ⟨g, rfl, h.mono hB⟩
set_option maxRecDepth 100000 in
set_option maxHeartbeats 2000000 in
theorem drawGd (B : Nat) (a : Option Addr) (len cap : Nat) (w : World) (hcode : CodeOk w B a len) (hBw : B ≤ w.heap.size) :
    Calls Try.prog 11 #[.slice a len cap] w fun e w' => ∃ (q : Option Addr) (n c : Nat) (l : List Int) (al : Int), e = .returned (.agg #[.slice q n c, .int .i64 al]) ∧ GOwn w' w.heap.size q n c l ∧ GdR l al ∧ Below w.heap.size w w' := by
  have HB : Hid (Below w.heap.size w (w.alloc (.cells #[.slice none 0 0, .int .i64 0] 26))) := alG _ _
  have HC : Hid (CodeOk (w.alloc (.cells #[.slice none 0 0, .int .i64 0] 26)) B a len) := code_below hcode (HB.out.mono hBw)
  have HZ : Hid ((w.alloc (.cells #[.slice none 0 0, .int .i64 0] 26)).heap[w.heap.size]? = some (.cells #[.slice none 0 0, .int .i64 0] 26)) := heap_new w _
  clear hcode
  go_enter Try.func11, Try.ntmps11
  go_wp2_with fail
  refine (new23 B a len cap _ HC.out (Nat.le_trans hBw HB.out.size)).mono ?_
  rintro e w1 ⟨C, rfl, hC, hcu, hco, hb1⟩
  have hC1 : w.heap.size + 1 ≤ C := by simpa using hC
  have HD1 : Hid (Drawn w1 w1 C B a len cap) := ⟨hcu, hco, World.grownBy.refl _ _⟩
  have HB1 : Hid (Below w.heap.size w w1) := bel_on (Nat.le_refl _) HB.out hb1
  have HZ1 : Hid (w1.heap[w.heap.size]? = some (.cells #[.slice none 0 0, .int .i64 0] 26)) := row_on HZ.out hb1
  clear HC hcu hco hb1 HZ HB
  go_wp2_with fail
  refine (guardD C B a len cap _ HD1.out.1 (by omega) HD1.out.2.1).mono ?_
  rintro e w2 ⟨q, n, c, l, al, rfl, hown, hgd, hD⟩
  have HB2 : Hid (Below w.heap.size w w2) := HB1.out.grown hD.2.2 HB1.out.size (fun k hk => by cases hk; omega)
  have HZ2 : Hid (w2.heap[w.heap.size]? = some (.cells #[.slice none 0 0, .int .i64 0] 26)) := row_drawn HZ1.out hD.2.2 (by omega)
  have hl1 := row_lt HZ1.out
  have HO2 : Hid (GOwn w2 (w1.heap.size + 2) q n c l) := hown
  have HG : Hid (GdR l al) := hgd
  clear hD HD1 HB1 HZ1 hown hgd
  go_wp2_with (refine listStoreG rfl rfl _ _ _ rfl rfl w.heap.size q n c al rfl rfl HZ2.out ?_)
  intro w9 hput
  have HF : Hid (Below w.heap.size w w9) := hput.2.2.2 _ _ (Nat.le_refl _) HB2.out
  have HO9 : Hid (GOwn w9 (w1.heap.size + 2) q n c l) := HO2.out.far (fun k hk => hput.2.1 k (by omega))
  obtain ⟨z0, z1, _⟩ := row2_cells hput.1
  clear hput
  go_wp2
  refine bodyPost_ret (v := .agg #[.slice q n c, .int .i64 al]) (by simp only [results, Try.results11]; simp [go_sem, z0, z1]) rfl ⟨q, n, c, l, al, rfl, GOwn.mono HO9.out (by omega), HG.out, HF.out⟩
end Go.Proofs.Ytgpdkodnggpkeaa.D
