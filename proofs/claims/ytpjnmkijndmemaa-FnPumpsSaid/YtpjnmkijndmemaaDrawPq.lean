/-
  A drawn pump, from bytes.
-/
import Derived.Test.YtpjnmkijndmemaaDrawPm
namespace Go.Proofs.Ytpjnmkijndmemaa.I
open Go.RowKit Go.PlainAid
set_option linter.unusedVariables false
set_option linter.unusedSimpArgs false

set_option maxRecDepth 100000 in
set_option maxHeartbeats 2000000 in
theorem drawPmp (a : Option Addr) (len cap : Nat) (w : World) (hcode : CodeOk w w.heap.size a len) :
    Calls Try.prog 14 #[.slice a len cap] w fun e w' => ∃ p : Pm, e = .returned p.V ∧ p.ok ∧ Below w.heap.size w w' := by
  have HC : Hid (CodeOk (w.alloc (.cells #[.int .i64 0, .int .i64 0, .int .i64 0, .int .i64 0, .int .i64 0, .int .i64 0, .int .i64 0, .int .i64 0] 27)) w.heap.size a len) := code_below hcode (alP w _)
  have HZ : Hid ((w.alloc (.cells #[.int .i64 0, .int .i64 0, .int .i64 0, .int .i64 0, .int .i64 0, .int .i64 0, .int .i64 0, .int .i64 0] 27)).heap[w.heap.size]? = some (.cells #[.int .i64 0, .int .i64 0, .int .i64 0, .int .i64 0, .int .i64 0, .int .i64 0, .int .i64 0, .int .i64 0] 27)) := heap_new w _
  have HB : Hid (Below w.heap.size w (w.alloc (.cells #[.int .i64 0, .int .i64 0, .int .i64 0, .int .i64 0, .int .i64 0, .int .i64 0, .int .i64 0, .int .i64 0] 27))) := alP w _
  clear hcode
  go_enter Try.func14, Try.ntmps14
  go_wp2_with fail
  refine (new23 w.heap.size a len cap _ HC.out HB.out.size).mono ?_
  rintro e w1 ⟨C, rfl, hC, hcu, hco, hb1⟩
  have hC1 : w.heap.size + 1 ≤ C := by simpa using hC
  have HD1 : Hid (Drawn w1 w1 C w.heap.size a len cap) := ⟨hcu, hco, World.grownBy.refl _ _⟩
  have HB1 : Hid (Below w.heap.size w w1) := bel_on (Nat.le_refl _) HB.out hb1
  have HZ1 : Hid (w1.heap[w.heap.size]? = some (.cells #[.int .i64 0, .int .i64 0, .int .i64 0, .int .i64 0, .int .i64 0, .int .i64 0, .int .i64 0, .int .i64 0] 27)) := row_on HZ.out hb1
  clear HC hcu hco hb1 HZ HB
  go_wp2_with fail
  refine (pumpD C w.heap.size a len cap _ HD1.out.1 (by omega) HD1.out.2.1).mono ?_
  rintro e w2 ⟨p, rfl, hok, hD⟩
  have HB2 : Hid (Below w.heap.size w w2) := drawn_below HB1.out (by omega) hD
  have HZ2 : Hid (w2.heap[w.heap.size]? = some (.cells #[.int .i64 0, .int .i64 0, .int .i64 0, .int .i64 0, .int .i64 0, .int .i64 0, .int .i64 0, .int .i64 0] 27)) := row_drawn HZ1.out hD.2.2 (by omega)
  have HOk : Hid p.ok := hok
  clear hD HD1 HB1 HZ1 hok
  obtain ⟨s, n, d, r, l, b, g, k⟩ := p
  simp only [Pm.V]
  go_wp2_with (refine listStoreP rfl rfl _ _ _ rfl rfl w.heap.size (s) (n) (d) (r) (l) (b) (g) (k) rfl rfl HZ2.out ?_)
  intro w9 hr9 ho9 hs9 hB9
  have HF : Hid (Below w.heap.size w w9) := hB9 _ _ (Nat.le_refl _) HB2.out
  obtain ⟨⟨z0, z1, z2, z3, z4, z5, z6, z7⟩, _⟩ := box8_cells hr9
  clear ho9 hs9 hB9 hr9
  go_wp2
  refine bodyPost_ret (v := .agg #[.int .i64 s, .int .i64 n, .int .i64 d, .int .i64 r, .int .i64 l, .int .i64 b, .int .i64 g, .int .i64 k]) (by simp only [results, Try.results14]; simp [go_sem, z0, z1, z2, z3, z4, z5, z6, z7]) rfl ⟨⟨s, n, d, r, l, b, g, k⟩, rfl, HOk.out, HF.out⟩
end Go.Proofs.Ytpjnmkijndmemaa.I
