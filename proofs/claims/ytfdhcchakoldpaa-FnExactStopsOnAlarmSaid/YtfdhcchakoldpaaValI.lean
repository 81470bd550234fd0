/-
  slices.Values over a list of ticks: what its closure does, for every body that keeps what lay below n₀.
-/
import Derived.RangeFuncNested
import Derived.RangeFuncBound
import Derived.RangeFuncCalls
import Derived.RangeFuncLeaves
import Derived.Shelf.Abstract
import Derived.Shelf.RegionOpen
import Derived.WalkKit
import Derived.OwnWalkIn
import Derived.TacticsInMore
import Derived.LoopNIn
import Derived.LoopIn
import Derived.Test.YtfdhcchakoldpaaTil
namespace Go.Proofs.Ytfdhcchakoldpaa
open Go.ChangeShapes Go.WideShapes Go.ChangeAt Go.RowKit Go.PlainAid Go.Shelf
set_option linter.unusedVariables false

attribute [local go_sem] Oper.semAt_some

abbrev tkA (x : Tk3) : Value := .agg #[.int .i64 x.1, .int .i64 x.2.1, .int .i64 x.2.2]
set_option maxRecDepth 100000 in
set_option maxHeartbeats 2000000 in
theorem vals1_in (F : Fence) (n : Nat) (h7 : F.fn 95) (hro : F.round = none) (hn : 1 ≤ n) (l Bs n₀ b off len cap : Nat) (zs : List Tk3) (hzl : zs.length = len) (hreach : len * 24 ≤ 140737488351232) (hb : b < n₀) (J Jx : List Tk3 → World → Prop) (B : Nat) (hJ : AbidesFrom B J)
    (hY : ∀ pre x W, J pre W → pre.length < len → YieldAt F (n - 1) Try.prog l #[tkA x] W fun e W' =>
      (e = .returned (.bool true) ∧ J (pre ++ [x]) W' ∧ Below n₀ W W') ∨ (e = .returned (.bool false) ∧ Jx (pre ++ [x]) W'))
    (W : World) (hn₀ : n₀ ≤ W.heap.size) (hBs : W.cell? ⟨Bs, 0, none⟩ = some (.slice (some ⟨b, off, none⟩) len cap))
    (hc : ∀ j (h : j < zs.length), W.cell? ⟨b, off + j * 3, none⟩ = some (.int .i64 zs[j].1) ∧ W.cell? ⟨b, off + j * 3 + 1, none⟩ = some (.int .i64 zs[j].2.1) ∧ W.cell? ⟨b, off + j * 3 + 2, none⟩ = some (.int .i64 zs[j].2.2)) (h0 : J [] W) :
    CallsIn F n Try.prog 95 #[.func (.yield l) #[] #[], .pointer (some ⟨Bs, 0, none⟩)] W fun e W' => (∃ v, e = .returned v) ∧
      ((∃ ys, ys = zs ∧ J ys W') ∨ (∃ pre, pre <+: zs ∧ Jx pre W')) := by
  refine callsIn_of_wp Try.func95 rfl h7 ?_ hro
  simp only [Try.ntmps95, List.size_toArray, List.length_cons, List.length_nil, Nat.reduceAdd, Nat.reduceSub, Array.replicate_succ, Array.replicate_zero, List.push_toArray, List.append_toArray, List.nil_append, List.cons_append]
  have HC : Hid (∀ j (h : j < zs.length), W.cell? ⟨b, off + j * 3, none⟩ = some (.int .i64 zs[j].1) ∧ W.cell? ⟨b, off + j * 3 + 1, none⟩ = some (.int .i64 zs[j].2.1) ∧ W.cell? ⟨b, off + j * 3 + 2, none⟩ = some (.int .i64 zs[j].2.2)) := hc
  have HZ : Hid (zs.length = len) := hzl
  clear hc hzl
  gi_wp2
  gi_loopw [7] (fun i wr => ∃ k : Nat, k ≤ len ∧ i = .int .i64 k ∧ J (zs.take k) wr ∧ Below n₀ W wr)
    (fun i _ => len - (intOf i).toNat)
  case atStart => exact ⟨0, Nat.zero_le _, rfl, h0, Below.refl _ _⟩
  case round =>
    obtain ⟨k, hk, rfl, hJs, hnx⟩ := hrel
    by_cases hlt : k < len
    · have hkz : k < zs.length := by rw [HZ.out]; exact hlt
      obtain ⟨x1, x2, x3, hx⟩ : ∃ x1 x2 x3, zs[k] = ((x1, x2, x3) : Tk3) := ⟨_, _, _, rfl⟩
      have hx0 : zs.take k ++ [((x1, x2, x3) : Tk3)] = zs.take (k + 1) := by rw [List.take_succ_eq_append_getElem hkz, hx]
      have hJa : J (zs.take k) (wr.alloc (.cells #[.int .i64 x1, .int .i64 x2, .int .i64 x3] 117)) := hJ _ _ _ none hJs (World.grownBy_alloc _ _ _) (fun r e => by cases e)
      have hna : n₀ ≤ wr.heap.size := Nat.le_trans hn₀ hnx.size
      have hBa : Below n₀ W (wr.alloc (.cells #[.int .i64 x1, .int .i64 x2, .int .i64 x3] 117)) := hnx.alloc hna _
      obtain ⟨fn, tmps, assign, body, hy, hR⟩ := hY _ (x1, x2, x3) _ hJa (by rw [List.length_take]; omega)
      dsimp only [tkA] at hy
      obtain ⟨hc0, hc1, hc2⟩ := HC.out k hkz
      rw [hx] at hc0 hc1 hc2
      have hcx0 : wr.cell? ⟨b, off + k * 3, none⟩ = some (.int .i64 x1) := (hnx.cell (p := ⟨b, off + k * 3, none⟩) hb).trans hc0
      have hcx1 : wr.cell? ⟨b, off + k * 3 + 1, none⟩ = some (.int .i64 x2) := (hnx.cell (p := ⟨b, off + k * 3 + 1, none⟩) hb).trans hc1
      have hcx2 : wr.cell? ⟨b, off + k * 3 + 2, none⟩ = some (.int .i64 x3) := (hnx.cell (p := ⟨b, off + k * 3 + 2, none⟩) hb).trans hc2
      have HX : Hid (zs.take k ++ [((x1, x2, x3) : Tk3)] = zs.take (k + 1)) := hx0
      clear hx hx0 hc0 hc1 hc2 hkz hJa
      gi_wp2
      refine hR.mono ?_
      rintro e W3 (⟨rfl, hJ3, hk3⟩ | ⟨rfl, hJx3⟩)
      · -- the round goes on
        gi_wp2
        go_roundw
        case rel => exact ⟨k + 1, by omega, by simp, by rw [← HX.out]; exact hJ3, hBa.trans hk3⟩
        case measure => simp [intOf]; omega
      · gi_wp2
        refine bodyPost_ret (results_none rfl _ _ _) rfl ?_
        exact ⟨⟨_, rfl⟩, .inr ⟨zs.take (k + 1), List.take_prefix _ _, by rw [← HX.out]; exact hJx3⟩⟩
    · obtain rfl : k = len := by omega
      gi_wp2
      go_end0
      exact ⟨⟨_, rfl⟩, .inl ⟨zs, rfl, by rw [List.take_of_length_le (Nat.le_of_eq HZ.out)] at hJs; exact hJs⟩⟩

set_option maxRecDepth 100000 in
set_option maxHeartbeats 1000000 in
/-- .. at an empty slice: no round. -/
theorem vals1_nil_in (F : Fence) (n : Nat) (h7 : F.fn 95) (hro : F.round = none) (l Bs cap : Nat) (a : Option Addr) (J : List Tk3 → World → Prop) (W : World) (hBs : W.cell? ⟨Bs, 0, none⟩ = some (.slice a 0 cap)) (h0 : J [] W) :
    CallsIn F n Try.prog 95 #[.func (.yield l) #[] #[], .pointer (some ⟨Bs, 0, none⟩)] W fun e W' => (∃ v, e = .returned v) ∧ J [] W' := by
  refine callsIn_of_wp Try.func95 rfl h7 ?_ hro
  simp only [Try.ntmps95, List.size_toArray, List.length_cons, List.length_nil, Nat.reduceAdd, Nat.reduceSub, Array.replicate_succ, Array.replicate_zero, List.push_toArray, List.append_toArray, List.nil_append, List.cons_append]
  gi_wp2
  gi_loopw [7] (fun i wr => i = .int .i64 0 ∧ J [] wr) (fun _ _ => 0)
  case atStart => exact ⟨rfl, h0⟩
  case round =>
    obtain ⟨rfl, hJs⟩ := hrel
    gi_wp2
    go_end0
    exact ⟨⟨_, rfl⟩, hJs⟩

set_option maxRecDepth 100000 in
set_option maxHeartbeats 1000000 in
/-- slices.Values(s): the slice value is boxed; the function value captures the box. -/
theorem vals_in (F : Fence) (n : Nat) (h5 : F.fn 40) (hro : F.round = none) (a : Option Addr) (len cap : Nat) (w : World) :
    CallsIn F n Try.prog 40 #[.slice a len cap] w fun e w' => e = .returned (.func (.func 95) #[] #[.pointer (some ⟨w.heap.size, 0, none⟩)]) ∧ w' = w.alloc (.cells #[.slice a len cap] 49) := by
  refine callsIn_of_wp Try.func40 rfl h5 ?_ hro
  simp only [Try.ntmps40, List.size_toArray, List.length_cons, List.length_nil, Nat.reduceAdd, Nat.reduceSub, Array.replicate_succ, Array.replicate_zero, List.push_toArray, List.append_toArray, List.nil_append, List.cons_append]
  gi_wp2
  go_ret
  exact ⟨rfl, rfl⟩

/-- a list that lies below n₀ -/
def RdB (n₀ : Nat) (W : World) (a : Option Addr) (zs : List Tk3) : Prop := 0 < zs.length → ∃ g off, a = some ⟨g, off, none⟩ ∧ g < n₀ ∧ ∀ j (h : j < zs.length), W.cell? ⟨g, off + j * 3, none⟩ = some (.int .i64 zs[j].1) ∧ W.cell? ⟨g, off + j * 3 + 1, none⟩ = some (.int .i64 zs[j].2.1) ∧ W.cell? ⟨g, off + j * 3 + 2, none⟩ = some (.int .i64 zs[j].2.2)
theorem RdY.bound {w : World} {a : Option Addr} {zs : List Tk3} (h : RdY w a zs) : RdB w.heap.size w a zs := fun h0 => by
  obtain ⟨g, off, ha, hc⟩ := h h0
  exact ⟨g, off, ha, World.block_lt_of_cell? w ⟨g, off + 0 * 3, none⟩ (hc 0 h0).1, hc⟩
theorem RdB.below {n₀ : Nat} {A B : World} (h : Below n₀ A B) {a : Option Addr} {zs : List Tk3} (hr : RdB n₀ A a zs) : RdB n₀ B a zs := fun h0 => by
  obtain ⟨g, off, ha, hg, hc⟩ := hr h0
  refine ⟨g, off, ha, hg, fun j hj => ?_⟩
  obtain ⟨c0, c1, c2⟩ := hc j hj
  exact ⟨(h.cell (p := ⟨g, off + j * 3, none⟩) hg).trans c0, (h.cell (p := ⟨g, off + j * 3 + 1, none⟩) hg).trans c1, (h.cell (p := ⟨g, off + j * 3 + 2, none⟩) hg).trans c2⟩

theorem vals_stops (F : Fence) (n : Nat) (h7 : F.fn 95) (hro : F.round = none) (hn : 1 ≤ n) (Bs n₀ : Nat) (a : Option Addr) (len cap : Nat) (zs : List Tk3) (hzl : zs.length = len) (hreach : len * 24 ≤ 140737488351232) (w : World) (hBs : Bs < w.heap.size) (hn₀ : n₀ ≤ w.heap.size)
    (hc : w.cell? ⟨Bs, 0, none⟩ = some (.slice a len cap)) (hI : RdB n₀ w a zs) :
    SeqStopsK F n Try.prog 95 #[.pointer (some ⟨Bs, 0, none⟩)] (fun x : Tk3 => #[tkA x]) (Below n₀) (fun ys => ys = zs) (fun pre => pre <+: zs) len w := fun l J Jx W hW hJ _ hY h0 => by
  have hc' := (hW.cell (p := ⟨Bs, 0, none⟩) hBs).trans hc
  by_cases hp : 0 < zs.length
  · obtain ⟨b, off, rfl, hb, hcs⟩ := hI.below (hW.mono hn₀) hp
    exact vals1_in F n h7 hro hn l Bs n₀ b off len cap zs hzl hreach hb J Jx _ hJ hY W (Nat.le_trans hn₀ hW.size) hc' hcs h0
  · obtain rfl : zs = [] := List.eq_nil_of_length_eq_zero (by omega)
    obtain rfl : len = 0 := by simpa using hzl.symm
    exact (vals1_nil_in F n h7 hro l Bs cap a J W hc' h0).mono fun e W' ⟨he, hj⟩ => ⟨he, .inl ⟨_, rfl, hj⟩⟩
end Go.Proofs.Ytfdhcchakoldpaa
