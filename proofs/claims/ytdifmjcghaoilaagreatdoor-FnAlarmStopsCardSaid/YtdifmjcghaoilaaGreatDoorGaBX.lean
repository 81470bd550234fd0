/-
  A latch that is held; a range over latches.
-/
import Derived.Test.YtdifmjcghaoilaaGreatDoorGaBM
import Derived.Test.YtdifmjcghaoilaaGreatDoorGaBT
import Derived.Test.YtdifmjcghaoilaaGreatDoorGaBW
import Derived.RangeFuncNested
import Derived.RangeFuncBound
import Derived.RangeFuncCalls
import Derived.RangeFuncLeaves
import Derived.Shelf.Abstract
import Derived.Shelf.RegionOpen
import Derived.WalkKit
import Derived.OwnWalkIn
import Derived.TacticsInMore
import Derived.LoopNIn
import Derived.LoopIn
import Derived.Test.YtdifmjcghaoilaaGreatDoorGaBP
namespace Go.Proofs.YtdifmjcghaoilaaGreatDoor
open Go.ChangeShapes Go.WideShapes Go.ChangeAt Go.RowKit Go.PlainAid Go.Shelf
set_option linter.unusedVariables false
set_option linter.unusedSimpArgs false

attribute [local go_sem] Oper.semAt_some

theorem cells_quad {w : World} {k : Nat} {t : TypeId} {x y z u : Value} (h : w.heap[k]? = some (.cells #[x, y, z, u] t)) : w.cell? ⟨k, 0, none⟩ = some x ∧ w.cell? ⟨k, 1, none⟩ = some y ∧ w.cell? ⟨k, 2, none⟩ = some z ∧ w.cell? ⟨k, 3, none⟩ = some u := by
  refine ⟨?_, ?_, ?_, ?_⟩ <;> simp [World.cell?, h]
theorem cells_two' {w : World} {k : Nat} {t : TypeId} {x y : Value} (h : w.heap[k]? = some (.cells #[x, y] t)) : w.cell? ⟨k, 0, none⟩ = some x ∧ w.cell? ⟨k, 1, none⟩ = some y := by
  constructor <;> simp [World.cell?, h]
/-- a latch that is held: the alarm is what was felt, and what was ahead where it was not seen -/
def HeldJ (a b p : Int) (s : Bool) : Prop := (0 ≤ b ∧ b ≤ 15) ∧ (0 ≤ p ∧ p ≤ 15) ∧ a = if s = true then b else G.orI p b
set_option maxRecDepth 100000 in
set_option maxHeartbeats 2000000 in
theorem heldI (a b p : Int) (s : Bool) (h : HeldJ a b p s) (w : World) : Calls Tryz.prog 29 #[.agg #[.int .i64 a, .int .i64 b, .int .i64 p, .bool s]] w fun e w' => e = .returned (.bool true) ∧ Below w.heap.size w w' := by
  obtain ⟨hb, hp, ha⟩ := h
  cases s
  · have ha' : a = G.orI p b := ha
    have q0 := G.or_is hb hp
    have q1 := and_or15 hp hb
    rw [← ha'] at q1
    obtain ⟨m, hm⟩ : ∃ m, G.orI b p = m := ⟨_, rfl⟩
    rw [hm] at q0 q1
    have q2 : bits BinOp.or IntKind.i64 b p = m := q0
    have q3 : bits BinOp.and IntKind.i64 a m = m := q1
    clear ha ha' hm q0 q1
    go_enter Tryz.func29, Tryz.ntmps29
    go_wp2
    go_ret
    exact ⟨by simp [q2, q3], alM _ _⟩
  · have ha' : a = b := ha
    subst ha'
    have q1 := and_self15 hb
    have q3 : bits BinOp.and IntKind.i64 a a = a := q1
    clear ha q1
    go_enter Tryz.func29, Tryz.ntmps29
    go_wp2
    go_ret
    exact ⟨by simp [q3], alM _ _⟩
abbrev latV (a b p : Int) (s : Bool) : Value := .agg #[.int .i64 a, .int .i64 b, .int .i64 p, .bool s]
abbrev fnL (Bl Bi : Nat) : Value := .func (.func 53) #[] #[.pointer (some ⟨Bl, 0, none⟩), .pointer (some ⟨Bi, 0, none⟩)]
abbrev fnLH : Value := .func (.func 29) #[] #[]
set_option maxRecDepth 100000 in
set_option maxHeartbeats 4000000 in
theorem isSoH (n : Nat) (hn : 6 ≤ n) (N : Nat) (fa fb fp : Nat → Int) (fs : Nat → Bool) (hh : ∀ j, j < N → HeldJ (fa j) (fb j) (fp j) (fs j)) (Bl Bi : Nat) (w : World)
    (hseq : ∀ W0, Below w.heap.size w W0 → Rounds (n - 1) 53 #[.pointer (some ⟨Bl, 0, none⟩), .pointer (some ⟨Bi, 0, none⟩)] (fun j => #[latV (fa j) (fb j) (fp j) (fs j)]) N W0) :
    CallsIn Fence.wide n Tryz.prog 30 #[.agg #[fnL Bl Bi, fnLH]] w fun e W' => e = .returned (.bool true) ∧ Below w.heap.size w W' := by
  have h1 : 1 ≤ n := by omega
  refine callsIn_of_wp_marks Tryz.func30 rfl trivial ?_ rfl
  simp only [Tryz.ntmps30, List.size_toArray, List.length_cons, List.length_nil, Nat.reduceAdd, Nat.reduceSub, Array.replicate_succ, Array.replicate_zero, List.push_toArray, List.append_toArray, List.nil_append, List.cons_append]
  gi_wp2
  have hs0 : (w.alloc (.cells #[fnL Bl Bi, fnLH] 76)).heap.size = w.heap.size + 1 := by simp
  have hT0 : ((w.alloc (.cells #[fnL Bl Bi, fnLH] 76)).alloc (.cells #[.bool false] 4)).heap[w.heap.size]? = some (.cells #[fnL Bl Bi, fnLH] 76) := (Below.heap_alloc _ _ _ (row_lt (heap_new w _))).trans (heap_new w _)
  have bR := Boxed.new (w.alloc (.cells #[fnL Bl Bi, fnLH] 76)) 4 (.bool false)
  rw [hs0] at bR
  have hB0 : Below w.heap.size w ((w.alloc (.cells #[fnL Bl Bi, fnLH] 76)).alloc (.cells #[.bool false] 4)) := ((Below.refl _ w).alloc (Nat.le_refl _) _).alloc (by simp) _
  have hsz : ((w.alloc (.cells #[fnL Bl Bi, fnLH] 76)).alloc (.cells #[.bool false] 4)).heap.size = w.heap.size + 2 := by simp
  obtain ⟨W0, hW0⟩ : ∃ W0, ((w.alloc (.cells #[fnL Bl Bi, fnLH] 76)).alloc (.cells #[.bool false] 4)) = W0 := ⟨_, rfl⟩
  rw [hW0] at hT0 bR hB0 hsz
  (try rw [hW0])
  clear hW0 hs0
  refine range_rounds h1 (gf := 53) (lb := #[.pointer (some ⟨Bl, 0, none⟩), .pointer (some ⟨Bi, 0, none⟩)]) rfl (enters_of Tryz.func53 (by kernel_rfl) rfl)
    (hseq W0 hB0) (fun _ => rfl)
    (fun j W => (W.heap[w.heap.size]? = some (.cells #[fnL Bl Bi, fnLH] 76) ∧ Boxed W (w.heap.size + 1) 4 (.bool false)) ∧ Below w.heap.size w W)
    (fun j A B hs hb => ⟨⟨(hb.block _ (by omega)).trans hs.1.1, (hb.block _ (by omega)).trans hs.1.2⟩, hs.2.trans (hb.mono (by omega))⟩)
    ⟨⟨hT0, bR⟩, hB0⟩ ?round ?done
  case round =>
    rintro l j W hj ⟨⟨hT, hb⟩, hB⟩ hl0 hl1
    gi_wp2
    refine ⟨alM _ _, fun W2 hg hi => ?_⟩
    obtain ⟨⟨hT2, hb2⟩, hB2⟩ := hi
    have hX2 : W2.heap[W.heap.size]? = some (.cells #[.int .i64 (fa j), .int .i64 (fb j), .int .i64 (fp j), .bool (fs j)] 74) := (hg.block _ (by simp) (fun e => by cases e; omega)).trans (heap_new W _)
    obtain ⟨k0, k1⟩ := cells_two' hT2
    obtain ⟨x0, x1, x2, x3⟩ := cells_quad hX2
    have HT : Hid (W2.heap[w.heap.size]? = some (.cells #[fnL Bl Bi, fnLH] 76)) := hT2
    have HBx : Hid (Boxed W2 (w.heap.size + 1) 4 (.bool false)) := hb2
    have HBl : Hid (Below w.heap.size w W2) := hB2
    have CM := heldI (fa j) (fb j) (fp j) (fs j) (hh j hj) W2
    generalize fa j = a_ at *
    generalize fb j = b_ at *
    generalize fp j = p_ at *
    generalize fs j = s_ at *
    clear hT hb hB hT2 hb2 hB2 hg hX2
    gi_wp2_with fail
    refine ⟨trivial, fun _ => by omega, ?_⟩
    refine (CallsIn.inRound l (callsIn_wide.2 CM)).mono ?_
    rintro e w3 ⟨rfl, hb3⟩
    gi_wp2
    exact ⟨⟨row_on HT.out hb3, row_on (show W2.heap[w.heap.size + 1]? = some _ from HBx.out) hb3⟩, bel_on (Nat.le_refl _) HBl.out hb3⟩
  case done =>
    rintro W ⟨⟨hT, hb⟩, hB⟩ hD hK
    have hcb := hb.cell
    have hfb := hb.frozen
    gi_wp2
    have hK' := (KeepsOthers.setCell W ⟨w.heap.size + 1, 0, none⟩ (.bool true)).same _ _ hK rfl
    refine ⟨by simp, .inl ⟨_, _, rfl, run_takeDeferred hK', ?_⟩⟩
    have hc5 := cell_kept (World.cell?_setCell_same' W ⟨w.heap.size + 1, 0, none⟩ (.bool true) (by rw [hcb]; rfl)) (grownBy_putObj' _ W0.heap.size (.deferred none)) (fun r e => by cases e; exact ⟨_, hK', rfl⟩)
    refine ⟨.bool true, ?_, rfl, (hB.setCell (p := ⟨w.heap.size + 1, 0, none⟩) (by simp) _).trans (belowK_b (w := w) (Nat.le_refl _) _ W0.heap.size _ _ (by omega) hK' rfl rfl)⟩
    simp [results, Tryz.f30, go_sem, hc5]
end Go.Proofs.YtdifmjcghaoilaaGreatDoor

namespace Go.Proofs.YtdifmjcghaoilaaGreatDoor
open Go.ChangeShapes Go.WideShapes Go.ChangeAt Go.RowKit Go.PlainAid Go.Shelf
set_option linter.unusedVariables false

attribute [local go_sem] Oper.semAt_some

abbrev tkVal (x : Tk3) : Value := .agg #[.int .i64 x.1, .int .i64 x.2.1, .int .i64 x.2.2]
set_option maxRecDepth 100000 in
set_option maxHeartbeats 2000000 in
theorem vals1_in (F : Fence) (n : Nat) (h7 : F.fn 52) (hro : F.round = none) (hn : 1 ≤ n) (l Bs n₀ b off len cap : Nat) (zs : List Tk3) (hzl : zs.length = len) (hreach : len * 24 ≤ 140737488351232) (hb : b < n₀) (J Jx : List Tk3 → World → Prop) (B : Nat) (hJ : AbidesFrom B J)
    (hY : ∀ pre x W, J pre W → pre.length < len → YieldAt F (n - 1) Tryz.prog l #[tkVal x] W fun e W' =>
      (e = .returned (.bool true) ∧ J (pre ++ [x]) W' ∧ Below n₀ W W') ∨ (e = .returned (.bool false) ∧ Jx (pre ++ [x]) W'))
    (W : World) (hn₀ : n₀ ≤ W.heap.size) (hBs : W.cell? ⟨Bs, 0, none⟩ = some (.slice (some ⟨b, off, none⟩) len cap))
    (hc : ∀ j (h : j < zs.length), W.cell? ⟨b, off + j * 3, none⟩ = some (.int .i64 zs[j].1) ∧ W.cell? ⟨b, off + j * 3 + 1, none⟩ = some (.int .i64 zs[j].2.1) ∧ W.cell? ⟨b, off + j * 3 + 2, none⟩ = some (.int .i64 zs[j].2.2)) (h0 : J [] W) :
    CallsIn F n Tryz.prog 52 #[.func (.yield l) #[] #[], .pointer (some ⟨Bs, 0, none⟩)] W fun e W' => (∃ v, e = .returned v) ∧
      ((∃ ys, ys = zs ∧ J ys W') ∨ (∃ pre, pre <+: zs ∧ Jx pre W')) := by
  refine callsIn_of_wp Tryz.func52 rfl h7 ?_ hro
  simp only [Tryz.ntmps52, List.size_toArray, List.length_cons, List.length_nil, Nat.reduceAdd, Nat.reduceSub, Array.replicate_succ, Array.replicate_zero, List.push_toArray, List.append_toArray, List.nil_append, List.cons_append]
  have HC : Hid (∀ j (h : j < zs.length), W.cell? ⟨b, off + j * 3, none⟩ = some (.int .i64 zs[j].1) ∧ W.cell? ⟨b, off + j * 3 + 1, none⟩ = some (.int .i64 zs[j].2.1) ∧ W.cell? ⟨b, off + j * 3 + 2, none⟩ = some (.int .i64 zs[j].2.2)) := hc
  have HZ : Hid (zs.length = len) := hzl
  clear hc hzl
  gi_wp2
  gi_loopw [7] (fun i wr => ∃ k : Nat, k ≤ len ∧ i = .int .i64 k ∧ J (zs.take k) wr ∧ Below n₀ W wr)
    (fun i _ => len - (intOf i).toNat)
  case atStart => exact ⟨0, Nat.zero_le _, rfl, h0, Below.refl _ _⟩
  case round =>
    obtain ⟨k, hk, rfl, hJs, hnx⟩ := hrel
    by_cases hlt : k < len
    · have hkz : k < zs.length := by rw [HZ.out]; exact hlt
      obtain ⟨x1, x2, x3, hx⟩ : ∃ x1 x2 x3, zs[k] = ((x1, x2, x3) : Tk3) := ⟨_, _, _, rfl⟩
      have hx0 : zs.take k ++ [((x1, x2, x3) : Tk3)] = zs.take (k + 1) := by rw [List.take_succ_eq_append_getElem hkz, hx]
      have hJa : J (zs.take k) (wr.alloc (.cells #[.int .i64 x1, .int .i64 x2, .int .i64 x3] 41)) := hJ _ _ _ none hJs (World.grownBy_alloc _ _ _) (fun r e => by cases e)
      have hna : n₀ ≤ wr.heap.size := Nat.le_trans hn₀ hnx.size
      have hBa : Below n₀ W (wr.alloc (.cells #[.int .i64 x1, .int .i64 x2, .int .i64 x3] 41)) := hnx.alloc hna _
      obtain ⟨fn, tmps, assign, body, hy, hR⟩ := hY _ (x1, x2, x3) _ hJa (by rw [List.length_take]; omega)
      dsimp only [tkVal] at hy
      obtain ⟨hc0, hc1, hc2⟩ := HC.out k hkz
      rw [hx] at hc0 hc1 hc2
      have hcx0 : wr.cell? ⟨b, off + k * 3, none⟩ = some (.int .i64 x1) := (hnx.cell (p := ⟨b, off + k * 3, none⟩) hb).trans hc0
      have hcx1 : wr.cell? ⟨b, off + k * 3 + 1, none⟩ = some (.int .i64 x2) := (hnx.cell (p := ⟨b, off + k * 3 + 1, none⟩) hb).trans hc1
      have hcx2 : wr.cell? ⟨b, off + k * 3 + 2, none⟩ = some (.int .i64 x3) := (hnx.cell (p := ⟨b, off + k * 3 + 2, none⟩) hb).trans hc2
      have HX : Hid (zs.take k ++ [((x1, x2, x3) : Tk3)] = zs.take (k + 1)) := hx0
      clear hx hx0 hc0 hc1 hc2 hkz hJa
      gi_wp2
      refine hR.mono ?_
      rintro e W3 (⟨rfl, hJ3, hk3⟩ | ⟨rfl, hJx3⟩)
      · -- the round goes on
        gi_wp2
        go_roundw
        case rel => exact ⟨k + 1, by omega, by simp, by rw [← HX.out]; exact hJ3, hBa.trans hk3⟩
        case measure => simp [intOf]; omega
      · gi_wp2
        refine bodyPost_ret (results_none rfl _ _ _) rfl ?_
        exact ⟨⟨_, rfl⟩, .inr ⟨zs.take (k + 1), List.take_prefix _ _, by rw [← HX.out]; exact hJx3⟩⟩
    · obtain rfl : k = len := by omega
      gi_wp2
      go_end0
      exact ⟨⟨_, rfl⟩, .inl ⟨zs, rfl, by rw [List.take_of_length_le (Nat.le_of_eq HZ.out)] at hJs; exact hJs⟩⟩

set_option maxRecDepth 100000 in
set_option maxHeartbeats 1000000 in
/-- .. at an empty slice: no round. -/
theorem vals1_nil_in (F : Fence) (n : Nat) (h7 : F.fn 52) (hro : F.round = none) (l Bs cap : Nat) (a : Option Addr) (J : List Tk3 → World → Prop) (W : World) (hBs : W.cell? ⟨Bs, 0, none⟩ = some (.slice a 0 cap)) (h0 : J [] W) :
    CallsIn F n Tryz.prog 52 #[.func (.yield l) #[] #[], .pointer (some ⟨Bs, 0, none⟩)] W fun e W' => (∃ v, e = .returned v) ∧ J [] W' := by
  refine callsIn_of_wp Tryz.func52 rfl h7 ?_ hro
  simp only [Tryz.ntmps52, List.size_toArray, List.length_cons, List.length_nil, Nat.reduceAdd, Nat.reduceSub, Array.replicate_succ, Array.replicate_zero, List.push_toArray, List.append_toArray, List.nil_append, List.cons_append]
  gi_wp2
  gi_loopw [7] (fun i wr => i = .int .i64 0 ∧ J [] wr) (fun _ _ => 0)
  case atStart => exact ⟨rfl, h0⟩
  case round =>
    obtain ⟨rfl, hJs⟩ := hrel
    gi_wp2
    go_end0
    exact ⟨⟨_, rfl⟩, hJs⟩

set_option maxRecDepth 100000 in
set_option maxHeartbeats 1000000 in
/-- slices.Values(s): the slice value is boxed; the function value captures the box. -/
theorem vals_in (F : Fence) (n : Nat) (h5 : F.fn 25) (hro : F.round = none) (a : Option Addr) (len cap : Nat) (w : World) :
    CallsIn F n Tryz.prog 25 #[.slice a len cap] w fun e w' => e = .returned (.func (.func 52) #[] #[.pointer (some ⟨w.heap.size, 0, none⟩)]) ∧ w' = w.alloc (.cells #[.slice a len cap] 33) := by
  refine callsIn_of_wp Tryz.func25 rfl h5 ?_ hro
  simp only [Tryz.ntmps25, List.size_toArray, List.length_cons, List.length_nil, Nat.reduceAdd, Nat.reduceSub, Array.replicate_succ, Array.replicate_zero, List.push_toArray, List.append_toArray, List.nil_append, List.cons_append]
  gi_wp2
  go_ret
  exact ⟨rfl, rfl⟩

/-- a list that lies below n₀ -/
def RdB (n₀ : Nat) (W : World) (a : Option Addr) (zs : List Tk3) : Prop := 0 < zs.length → ∃ g off, a = some ⟨g, off, none⟩ ∧ g < n₀ ∧ ∀ j (h : j < zs.length), W.cell? ⟨g, off + j * 3, none⟩ = some (.int .i64 zs[j].1) ∧ W.cell? ⟨g, off + j * 3 + 1, none⟩ = some (.int .i64 zs[j].2.1) ∧ W.cell? ⟨g, off + j * 3 + 2, none⟩ = some (.int .i64 zs[j].2.2)
theorem RdY.bound {w : World} {a : Option Addr} {zs : List Tk3} (h : RdY w a zs) : RdB w.heap.size w a zs := fun h0 => by
  obtain ⟨g, off, ha, hc⟩ := h h0
  exact ⟨g, off, ha, World.block_lt_of_cell? w ⟨g, off + 0 * 3, none⟩ (hc 0 h0).1, hc⟩
theorem RdB.below {n₀ : Nat} {A B : World} (h : Below n₀ A B) {a : Option Addr} {zs : List Tk3} (hr : RdB n₀ A a zs) : RdB n₀ B a zs := fun h0 => by
  obtain ⟨g, off, ha, hg, hc⟩ := hr h0
  refine ⟨g, off, ha, hg, fun j hj => ?_⟩
  obtain ⟨c0, c1, c2⟩ := hc j hj
  exact ⟨(h.cell (p := ⟨g, off + j * 3, none⟩) hg).trans c0, (h.cell (p := ⟨g, off + j * 3 + 1, none⟩) hg).trans c1, (h.cell (p := ⟨g, off + j * 3 + 2, none⟩) hg).trans c2⟩

theorem vals_stops (F : Fence) (n : Nat) (h7 : F.fn 52) (hro : F.round = none) (hn : 1 ≤ n) (Bs n₀ : Nat) (a : Option Addr) (len cap : Nat) (zs : List Tk3) (hzl : zs.length = len) (hreach : len * 24 ≤ 140737488351232) (w : World) (hBs : Bs < w.heap.size) (hn₀ : n₀ ≤ w.heap.size)
    (hc : w.cell? ⟨Bs, 0, none⟩ = some (.slice a len cap)) (hI : RdB n₀ w a zs) :
    SeqStopsK F n Tryz.prog 52 #[.pointer (some ⟨Bs, 0, none⟩)] (fun x : Tk3 => #[tkVal x]) (Below n₀) (fun ys => ys = zs) (fun pre => pre <+: zs) len w := fun l J Jx W hW hJ _ hY h0 => by
  have hc' := (hW.cell (p := ⟨Bs, 0, none⟩) hBs).trans hc
  by_cases hp : 0 < zs.length
  · obtain ⟨b, off, rfl, hb, hcs⟩ := hI.below (hW.mono hn₀) hp
    exact vals1_in F n h7 hro hn l Bs n₀ b off len cap zs hzl hreach hb J Jx _ hJ hY W (Nat.le_trans hn₀ hW.size) hc' hcs h0
  · obtain rfl : zs = [] := List.eq_nil_of_length_eq_zero (by omega)
    obtain rfl : len = 0 := by simpa using hzl.symm
    exact (vals1_nil_in F n h7 hro l Bs cap a J W hc' h0).mono fun e W' ⟨he, hj⟩ => ⟨he, .inl ⟨_, rfl, hj⟩⟩
end Go.Proofs.YtdifmjcghaoilaaGreatDoor

namespace Go.Proofs.YtdifmjcghaoilaaGreatDoor
open Go.ChangeShapes Go.WideShapes Go.ChangeAt Go.RowKit Go.PlainAid Go.Shelf
set_option linter.unusedVariables false

attribute [local go_sem] Oper.semAt_some

/-- nothing is given in a tick with an alarm -/
def stopT (x : Tk3) : Bool := x.2.1 == 0 || x.1 == 0
set_option maxRecDepth 100000 in
set_option maxHeartbeats 1000000 in
theorem stopAlI (x y z : Int) (w : World) : Calls Tryz.prog 26 #[.agg #[.int .i64 x, .int .i64 y, .int .i64 z]] w fun e w' => e = .returned (.bool (stopT (x, y, z))) ∧ w' = w.alloc (.cells #[.int .i64 x, .int .i64 y, .int .i64 z] 41) := by
  show Calls Tryz.prog _ _ _ fun e w' => e = .returned (.bool (y == 0 || x == 0)) ∧ w' = w.alloc (.cells #[.int .i64 x, .int .i64 y, .int .i64 z] 41)
  by_cases hy : y = 0
  · subst hy
    go_enter Tryz.func26, Tryz.ntmps26
    go_wp2
    go_ret
    exact ⟨by simp, rfl⟩
  · have hy' : (y == 0) = false := by simpa using hy
    go_enter Tryz.func26, Tryz.ntmps26
    go_wp2
    go_ret
    exact ⟨by simp [hy'], rfl⟩
theorem cells_two {w : World} {k : Nat} {t : TypeId} {x y : Value} (h : w.heap[k]? = some (.cells #[x, y] t)) : w.cell? ⟨k, 0, none⟩ = some x ∧ w.cell? ⟨k, 1, none⟩ = some y := by
  constructor <;> simp [World.cell?, h]
theorem all_prefix {p zs : List Tk3} (h : p <+: zs) (hf : p.all stopT = false) : zs.all stopT = false := by
  obtain ⟨t, rfl⟩ := h
  rw [List.all_append, hf]
  rfl
abbrev fnT (Bs : Nat) : Value := .func (.func 52) #[] #[.pointer (some ⟨Bs, 0, none⟩)]
abbrev fnH : Value := .func (.func 26) #[] #[]
theorem row_ownFrom {β : Type} (k : Nat) (cs : Array Value) (t : TypeId) (fr : Nat × Nat) : Own (fun (_ : β) (W : World) => W.heap[k]? = some (.cells cs t fr)) := fun s A B row hs hg hr => (grownBy_keeps_cells hg hr hs rfl).trans hs
set_option maxRecDepth 100000 in
set_option maxHeartbeats 4000000 in
theorem isSoI (n : Nat) (hn : 6 ≤ n) (a : Option Addr) (len cap : Nat) (zs : List Tk3) (hzl : zs.length = len) (hreach : len * 24 ≤ 140737488351232) (Bs : Nat) (w : World) (hBs : Bs < w.heap.size) (hc : w.cell? ⟨Bs, 0, none⟩ = some (.slice a len cap)) (hI : RdB w.heap.size w a zs) :
    CallsIn Fence.wide n Tryz.prog 27 #[.agg #[fnT Bs, fnH]] w fun e W' => e = .returned (.bool (zs.all stopT)) ∧ Below w.heap.size w W' := by
  have h1 : 1 ≤ n := by omega
  refine callsIn_of_wp_marks Tryz.func27 rfl trivial ?_ rfl
  simp only [Tryz.ntmps27, List.size_toArray, List.length_cons, List.length_nil, Nat.reduceAdd, Nat.reduceSub, Array.replicate_succ, Array.replicate_zero, List.push_toArray, List.append_toArray, List.nil_append, List.cons_append]
  have HC : Hid (w.cell? ⟨Bs, 0, none⟩ = some (.slice a len cap)) := hc
  have HI : Hid (RdB w.heap.size w a zs) := hI
  clear hc hI
  gi_wp2
  have hs0 : (w.alloc (.cells #[fnT Bs, fnH] 69)).heap.size = w.heap.size + 1 := by simp
  have hT0 : ((w.alloc (.cells #[fnT Bs, fnH] 69)).alloc (.cells #[.bool false] 4)).heap[w.heap.size]? = some (.cells #[fnT Bs, fnH] 69) := (Below.heap_alloc _ _ _ (row_lt (heap_new w _))).trans (heap_new w _)
  have bR := Boxed.new (w.alloc (.cells #[fnT Bs, fnH] 69)) 4 (.bool false)
  rw [hs0] at bR
  have hB0 : Below w.heap.size w ((w.alloc (.cells #[fnT Bs, fnH] 69)).alloc (.cells #[.bool false] 4)) := ((Below.refl _ w).alloc (Nat.le_refl _) _).alloc (by simp) _
  have hsz : ((w.alloc (.cells #[fnT Bs, fnH] 69)).alloc (.cells #[.bool false] 4)).heap.size = w.heap.size + 2 := by simp
  obtain ⟨W0, hW0⟩ : ∃ W0, ((w.alloc (.cells #[fnT Bs, fnH] 69)).alloc (.cells #[.bool false] 4)) = W0 := ⟨_, rfl⟩
  rw [hW0] at hT0 bR hB0 hsz
  (try rw [hW0])
  clear hW0 hs0
  refine wpIn_rangeFunc_ownH rfl h1 (gf := 52) (lb := #[.pointer (some ⟨Bs, 0, none⟩)]) rfl trivial (enters_of Tryz.func52 (by kernel_rfl) rfl)
    (vals_stops Fence.wide (n - 1) trivial rfl (by omega) Bs w.heap.size a len cap zs hzl hreach W0 (by omega) (by omega) ((hB0.cell (p := ⟨Bs, 0, none⟩) hBs).trans HC.out) (HI.out.below hB0)) belowK_t (belowK_b (by omega)) (Below.refl _ _) (fun _ => rfl)
    (fun pre W => (W.heap[w.heap.size]? = some (.cells #[fnT Bs, fnH] 69) ∧ Boxed W (w.heap.size + 1) 4 (.bool false) ∧ pre.all stopT = true) ∧ Below w.heap.size w W)
    (fun c pre W => (c = .ret ∧ Boxed W (w.heap.size + 1) 4 (.bool false) ∧ pre.all stopT = false) ∧ Below w.heap.size w W)
    (OwnFrom.and (OwnFrom.and ((row_ownFrom _ _ _ _).from _) (OwnFrom.and ((boxed_own _ _ _).from _) (ownFrom_pure _ _))) (ownFrom_below (Nat.le_refl _) (by omega)))
    (fun c => OwnFrom.and (OwnFrom.and (ownFrom_pure _ _) (OwnFrom.and ((boxed_own _ _ _).from _) (ownFrom_pure _ _))) (ownFrom_below (Nat.le_refl _) (by omega)))
    ⟨⟨hT0, bR, rfl⟩, hB0⟩
    (fun x a' W => ∃ Bx : Nat, w.heap.size + 2 ≤ Bx ∧ W.heap[Bx]? = some (.cells #[.int .i64 x.1, .int .i64 x.2.1, .int .i64 x.2.2] 41) ∧ a' = { tmps := #[.agg #[fnT Bs, fnH], .pointer (some ⟨w.heap.size, 0, none⟩), .pointer (some ⟨w.heap.size + 1, 0, none⟩), .pointer (some ⟨Bx, 0, none⟩), .pointer (some ⟨w.heap.size, 0, none⟩), fnT Bs, tkVal x, undef, undef, undef, undef, undef], defers := [] })
    (fun x a' s A B row hs hg hr => by
      obtain ⟨Bx, h1, h2, h3⟩ := hs
      exact ⟨Bx, h1, (grownBy_keeps_cells hg (fun r e => (hr r e).2) h2 rfl).trans h2, h3⟩) ?assign ?body ?done ?stop
  case assign =>
    rintro l pre ⟨x, y, z⟩ W K ⟨⟨hT, hb, hp⟩, hB⟩ hK
    gi_wp2
    have hle : w.heap.size + 2 ≤ W.heap.size := row_lt (show W.heap[w.heap.size + 1]? = some _ from hb)
    exact hK _ _ ((KeepsOthers.alloc _ _).from _) ((Below.refl _ W).alloc hB.size _) ⟨⟨(Below.heap_alloc _ _ _ (row_lt hT)).trans hT, hb.alloc _, hp⟩, hB.alloc hB.size _⟩ ⟨W.heap.size, hle, heap_new W _, rfl⟩
  case body =>
    rintro l pre ⟨x, y, z⟩ a' W hl ⟨r, hr⟩ ⟨⟨hT, hb, hp⟩, hB⟩ ⟨Bx, hBx, hX, rfl⟩ hlt
    obtain ⟨b, hbT⟩ : ∃ b, stopT (x, y, z) = b := ⟨_, rfl⟩
    obtain ⟨k0, k1⟩ := cells_two hT
    obtain ⟨⟨x0, x1, x2⟩, _⟩ := boxY_cells hX
    have hle : w.heap.size + 2 ≤ W.heap.size := row_lt (show W.heap[w.heap.size + 1]? = some _ from hb)
    have hba : Boxed (W.alloc (.cells #[.int .i64 x, .int .i64 y, .int .i64 z] 41)) (w.heap.size + 1) 4 (.bool false) := hb.alloc _
    have hTa : (W.alloc (.cells #[.int .i64 x, .int .i64 y, .int .i64 z] 41)).heap[w.heap.size]? = some (.cells #[fnT Bs, fnH] 69) := (Below.heap_alloc _ _ _ (row_lt hT)).trans hT
    have hBa : Below w.heap.size w (W.alloc (.cells #[.int .i64 x, .int .i64 y, .int .i64 z] 41)) := hB.alloc (by omega) _
    have hWa : Below w.heap.size W (W.alloc (.cells #[.int .i64 x, .int .i64 y, .int .i64 z] 41)) := (Below.refl _ W).alloc (by omega) _
    have hKa := KeepsOthers.alloc W (.cells #[.int .i64 x, .int .i64 y, .int .i64 z] 41)
    have HS : Hid (stopT (x, y, z) = b) := hbT
    clear hbT
    have hcb := hba.cell
    have hfb := hba.frozen
    cases b
    · gi_wp2_with fail
      refine ⟨trivial, fun _ => by omega, ?_⟩
      refine (CallsIn.inRound l (callsIn_wide.2 (stopAlI x y z _))).mono ?_
      rw [HS.out]
      rintro e w3 ⟨rfl, rfl⟩
      gi_wp2
      refine ⟨(hKa.trans (KeepsOthers.setCell _ _ _)).from _, ⟨rfl, ?_, ?_⟩, hBa.setCell (p := ⟨w.heap.size + 1, 0, none⟩) (by simp) _⟩
      · have h9 := heap_setCell_same _ (w.heap.size + 1) 0 _ _ (.bool false) (show (W.alloc (.cells #[.int .i64 x, .int .i64 y, .int .i64 z] 41)).heap[w.heap.size + 1]? = some (.cells #[.bool false] 4) from hba)
        exact h9
      · rw [List.all_append, List.all_cons, HS.out]; simp
    · gi_wp2_with fail
      refine ⟨trivial, fun _ => by omega, ?_⟩
      refine (CallsIn.inRound l (callsIn_wide.2 (stopAlI x y z _))).mono ?_
      rw [HS.out]
      rintro e w3 ⟨rfl, rfl⟩
      gi_wp2
      exact ⟨hKa.from _, hWa, ⟨hTa, hba, by rw [List.all_append, hp, List.all_cons, HS.out]; rfl⟩, hBa⟩
  case done =>
    rintro D ys W hD rfl ⟨⟨hT, hb, hp⟩, hB⟩ hK
    have hcb := hb.cell
    have hfb := hb.frozen
    gi_wp2
    have hK' := (KeepsOthers.setCell W ⟨w.heap.size + 1, 0, none⟩ (.bool true)).same D _ hK rfl
    refine ⟨by simp, .inl ⟨_, _, rfl, run_takeDeferred hK', ?_⟩⟩
    have hc5 := cell_kept (World.cell?_setCell_same' W ⟨w.heap.size + 1, 0, none⟩ (.bool true) (by rw [hcb]; rfl)) (grownBy_putObj' _ D (.deferred none)) (fun r e => by cases e; exact ⟨_, hK', rfl⟩)
    refine ⟨.bool true, ?_, by rw [hp], (hB.setCell (p := ⟨w.heap.size + 1, 0, none⟩) (by simp) _).trans (belowK_b (w := w) (Nat.le_refl _) _ D _ _ (by omega) hK' rfl rfl)⟩
    simp [results, Tryz.f27, go_sem, hc5]
  case stop =>
    rintro D c pre W hD hpre ⟨⟨rfl, hb, hp⟩, hB⟩ hK
    have hcb := hb.cell
    gi_wp2
    refine ⟨by simp, .inl ⟨_, _, rfl, run_takeDeferred hK, ?_⟩⟩
    have hc5 := cell_kept hcb (grownBy_putObj' _ D (.deferred none)) (fun r e => by cases e; exact ⟨_, hK, rfl⟩)
    refine ⟨.bool false, ?_, by rw [all_prefix hpre hp], hB.trans (belowK_b (w := w) (Nat.le_refl _) W D _ _ (by omega) hK rfl rfl)⟩
    simp [results, Tryz.f27, go_sem, hc5]
set_option maxRecDepth 100000 in
set_option maxHeartbeats 1000000 in
theorem stopsI (a : Option Addr) (l : List Tk3) (n cap : Nat) (hl : l.length = n) (hn : n ≤ 1048576) (w : World) (hr : RdY w a l) :
    Calls Tryz.prog 10 #[.slice a n cap] w fun e w' => e = .returned (.bool (l.all stopT)) ∧ Below w.heap.size w w' := by
  have HR : Hid (RdY w a l) := hr
  have HL : Hid (l.length = n) := hl
  clear hr hl
  go_enter Tryz.func10, Tryz.ntmps10
  go_wp2_with fail
  refine (callsIn_wide.1 (vals_in Fence.wide 7 trivial rfl a n cap _)).mono ?_
  rintro e w1 ⟨rfl, rfl⟩
  have hb1 : Below w.heap.size w (w.alloc (.cells #[.slice a n cap] 33)) := (Below.refl _ _).alloc (Nat.le_refl _) _
  have HB1 : Hid (Below w.heap.size w (w.alloc (.cells #[.slice a n cap] 33))) := hb1
  have HI : Hid (RdB (w.alloc (.cells #[.slice a n cap] 33)).heap.size (w.alloc (.cells #[.slice a n cap] 33)) a l) := (HR.out.on hb1).bound
  have HC : Hid ((w.alloc (.cells #[.slice a n cap] 33)).cell? ⟨w.heap.size, 0, none⟩ = some (.slice a n cap)) := (Boxed.new w _ _).cell
  clear hb1
  go_wp2_with fail
  refine (callsIn_wide.1 (isSoI 6 (by omega) a n cap l HL.out (by omega) w.heap.size _ (by simp) HC.out HI.out)).mono ?_
  rintro e w2 ⟨rfl, hb2⟩
  have HB2 : Hid (Below w.heap.size w w2) := bel_on (Nat.le_refl _) HB1.out hb2
  clear hb2 HB1 HI HC
  go_wp2
  go_ret
  exact ⟨rfl, HB2.out⟩
end Go.Proofs.YtdifmjcghaoilaaGreatDoor
