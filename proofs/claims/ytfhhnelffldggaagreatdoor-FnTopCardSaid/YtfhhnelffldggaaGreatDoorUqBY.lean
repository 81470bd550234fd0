/-
  slices.Values over a list of ticks: what its closure does, for every body that keeps what lay below n₀.
-/
import Derived.RangeFuncNested
import Derived.RangeFuncBound
import Derived.RangeFuncCalls
import Derived.RangeFuncLeaves
import Derived.Shelf.Abstract
import Derived.Shelf.RegionOpen
import Derived.WalkKit
import Derived.OwnWalkIn
import Derived.TacticsInMore
import Derived.LoopNIn
import Derived.LoopIn
import Derived.Test.YtfhhnelffldggaaGreatDoorUqAI
import Derived.Test.YtfhhnelffldggaaGreatDoorUqAB
set_option maxRecDepth 100000
set_option maxHeartbeats 16000000
namespace Go.Proofs.YtfhhnelffldggaaGreatDoor
open Go.ChangeShapes Go.WideShapes Go.ChangeAt Go.RowKit Go.PlainAid Go.Shelf
set_option linter.unusedVariables false
attribute [local go_sem] Oper.semAt_some
abbrev tkVal (x : Tk3) : Value := .agg #[.int .i64 x.1, .int .i64 x.2.1, .int .i64 x.2.2]
theorem vals1_in (F : Fence) (n : Nat) (h7 : F.fn 147) (hro : F.round = none) (hn : 1 ≤ n) (l Bs n₀ b off len cap : Nat) (zs : List Tk3) (hzl : zs.length = len) (hreach : len * 24 ≤ 140737488351232) (hb : b < n₀) (J Jx : List Tk3 → World → Prop) (B : Nat) (hJ : AbidesFrom B J)
  (hY : ∀ pre x W, J pre W → pre.length < len → YieldAt F (n - 1) Tryz.prog l #[tkVal x] W fun e W' =>
   (e = .returned (.bool true) ∧ J (pre ++ [x]) W' ∧ Below n₀ W W') ∨ (e = .returned (.bool false) ∧ Jx (pre ++ [x]) W'))
  (W : World) (hn₀ : n₀ ≤ W.heap.size) (hBs : W.cell? ⟨Bs, 0, none⟩ = some (.slice (some ⟨b, off, none⟩) len cap))
  (hc : ∀ j (h : j < zs.length), W.cell? ⟨b, off + j * 3, none⟩ = some (.int .i64 zs[j].1) ∧ W.cell? ⟨b, off + j * 3 + 1, none⟩ = some (.int .i64 zs[j].2.1) ∧ W.cell? ⟨b, off + j * 3 + 2, none⟩ = some (.int .i64 zs[j].2.2)) (h0 : J [] W) :
  CallsIn F n Tryz.prog 147 #[.func (.yield l) #[] #[], .pointer (some ⟨Bs, 0, none⟩)] W fun e W' => (∃ v, e = .returned v) ∧
   ((∃ ys, ys = zs ∧ J ys W') ∨ (∃ pre, pre <+: zs ∧ Jx pre W')) := by
 refine callsIn_of_wp Tryz.func147 rfl h7 ?_ hro
 simp only [Tryz.ntmps147, List.size_toArray, List.length_cons, List.length_nil, Nat.reduceAdd, Nat.reduceSub, Array.replicate_succ, Array.replicate_zero, List.push_toArray, List.append_toArray, List.nil_append, List.cons_append]
 have HC := hq hc
 have HZ := hq hzl
 clear hc hzl
 gi_wp2
 gi_loopw [7] (fun i wr => ∃ k : Nat, k ≤ len ∧ i = .int .i64 k ∧ J (zs.take k) wr ∧ Below n₀ W wr)
  (fun i _ => len - (intOf i).toNat)
 case atStart => exact ⟨0, Nat.zero_le _, rfl, h0, Below.refl _ _⟩
 case round =>
  obtain ⟨k, hk, rfl, hJs, hnx⟩ := hrel
  by_cases hlt : k < len
  ·
   have hkz : k < zs.length := by rw [HZ.out]; exact hlt
   obtain ⟨x1, x2, x3, hx⟩ : ∃ x1 x2 x3, zs[k] = ((x1, x2, x3) : Tk3) := ⟨_, _, _, rfl⟩
   have hx0 : zs.take k ++ [((x1, x2, x3) : Tk3)] = zs.take (k + 1) := by rw [List.take_succ_eq_append_getElem hkz, hx]
   have hJa : J (zs.take k) (wr.alloc (.cells #[.int .i64 x1, .int .i64 x2, .int .i64 x3] 64)) := hJ _ _ _ none hJs (World.grownBy_alloc _ _ _) (fun r e => by cases e)
   have hna : n₀ ≤ wr.heap.size := Nat.le_trans hn₀ hnx.size
   have hBa : Below n₀ W (wr.alloc (.cells #[.int .i64 x1, .int .i64 x2, .int .i64 x3] 64)) := hnx.alloc hna _
   obtain ⟨fn, tmps, assign, body, hy, hR⟩ := hY _ (x1, x2, x3) _ hJa (by rw [List.length_take]; omega)
   dsimp only [tkVal] at hy
   obtain ⟨hc0, hc1, hc2⟩ := HC.out k hkz
   rw [hx] at hc0 hc1 hc2
   have hcx0 : wr.cell? ⟨b, off + k * 3, none⟩ = some (.int .i64 x1) := (hnx.cell (p := ⟨b, off + k * 3, none⟩) hb).trans hc0
   have hcx1 : wr.cell? ⟨b, off + k * 3 + 1, none⟩ = some (.int .i64 x2) := (hnx.cell (p := ⟨b, off + k * 3 + 1, none⟩) hb).trans hc1
   have hcx2 : wr.cell? ⟨b, off + k * 3 + 2, none⟩ = some (.int .i64 x3) := (hnx.cell (p := ⟨b, off + k * 3 + 2, none⟩) hb).trans hc2
   have HX := hq hx0
   clear hx hx0 hc0 hc1 hc2 hkz hJa
   gi_wp2
   refine hR.mono ?_
   rintro e W3 (⟨rfl, hJ3, hk3⟩ | ⟨rfl, hJx3⟩)
   ·
    gi_wp2
    go_roundw
    case rel => exact ⟨k + 1, by omega, by simp, by rw [← HX.out]; exact hJ3, hBa.trans hk3⟩
    case measure => simp [intOf]; omega
   ·
    gi_wp2
    refine bodyPost_ret (results_none rfl _ _ _) rfl ?_
    exact ⟨⟨_, rfl⟩, .inr ⟨zs.take (k + 1), List.take_prefix _ _, by rw [← HX.out]; exact hJx3⟩⟩
  ·
   obtain rfl : k = len := by omega
   gi_wp2
   go_end0
   exact ⟨⟨_, rfl⟩, .inl ⟨zs, rfl, by rw [List.take_of_length_le (Nat.le_of_eq HZ.out)] at hJs; exact hJs⟩⟩
theorem vals1_nil_in (F : Fence) (n : Nat) (h7 : F.fn 147) (hro : F.round = none) (l Bs cap : Nat) (a : Option Addr) (J : List Tk3 → World → Prop) (W : World) (hBs : W.cell? ⟨Bs, 0, none⟩ = some (.slice a 0 cap)) (h0 : J [] W) :
  CallsIn F n Tryz.prog 147 #[.func (.yield l) #[] #[], .pointer (some ⟨Bs, 0, none⟩)] W fun e W' => (∃ v, e = .returned v) ∧ J [] W' := by
 refine callsIn_of_wp Tryz.func147 rfl h7 ?_ hro
 simp only [Tryz.ntmps147, List.size_toArray, List.length_cons, List.length_nil, Nat.reduceAdd, Nat.reduceSub, Array.replicate_succ, Array.replicate_zero, List.push_toArray, List.append_toArray, List.nil_append, List.cons_append]
 gi_wp2
 gi_loopw [7] (fun i wr => i = .int .i64 0 ∧ J [] wr) (fun _ _ => 0)
 case atStart => exact ⟨rfl, h0⟩
 case round =>
  obtain ⟨rfl, hJs⟩ := hrel
  gi_wp2
  go_end0
  exact ⟨⟨_, rfl⟩, hJs⟩
theorem vals_in (F : Fence) (n : Nat) (h5 : F.fn 89) (hro : F.round = none) (a : Option Addr) (len cap : Nat) (w : World) :
  CallsIn F n Tryz.prog 89 #[.slice a len cap] w fun e w' => e = .returned (.func (.func 147) #[] #[.pointer (some ⟨w.heap.size, 0, none⟩)]) ∧ w' = w.alloc (.cells #[.slice a len cap] 35) := by
 refine callsIn_of_wp Tryz.func89 rfl h5 ?_ hro
 simp only [Tryz.ntmps89, List.size_toArray, List.length_cons, List.length_nil, Nat.reduceAdd, Nat.reduceSub, Array.replicate_succ, Array.replicate_zero, List.push_toArray, List.append_toArray, List.nil_append, List.cons_append]
 gi_wp2
 go_ret
 exact ⟨rfl, rfl⟩
def RdB (n₀ : Nat) (W : World) (a : Option Addr) (zs : List Tk3) : Prop := 0 < zs.length → ∃ g off, a = some ⟨g, off, none⟩ ∧ g < n₀ ∧ ∀ j (h : j < zs.length), W.cell? ⟨g, off + j * 3, none⟩ = some (.int .i64 zs[j].1) ∧ W.cell? ⟨g, off + j * 3 + 1, none⟩ = some (.int .i64 zs[j].2.1) ∧ W.cell? ⟨g, off + j * 3 + 2, none⟩ = some (.int .i64 zs[j].2.2)
theorem RdY.bound {w : World} {a : Option Addr} {zs : List Tk3} (h : RdY w a zs) : RdB w.heap.size w a zs := fun h0 => by
 obtain ⟨g, off, ha, hc⟩ := h h0
 exact ⟨g, off, ha, World.block_lt_of_cell? w ⟨g, off + 0 * 3, none⟩ (hc 0 h0).1, hc⟩
theorem RdB.below {n₀ : Nat} {A B : World} (h : Below n₀ A B) {a : Option Addr} {zs : List Tk3} (hr : RdB n₀ A a zs) : RdB n₀ B a zs := fun h0 => by
 obtain ⟨g, off, ha, hg, hc⟩ := hr h0
 refine ⟨g, off, ha, hg, fun j hj => ?_⟩
 obtain ⟨c0, c1, c2⟩ := hc j hj
 exact ⟨(h.cell (p := ⟨g, off + j * 3, none⟩) hg).trans c0, (h.cell (p := ⟨g, off + j * 3 + 1, none⟩) hg).trans c1, (h.cell (p := ⟨g, off + j * 3 + 2, none⟩) hg).trans c2⟩
theorem vals_stops (F : Fence) (n : Nat) (h7 : F.fn 147) (hro : F.round = none) (hn : 1 ≤ n) (Bs n₀ : Nat) (a : Option Addr) (len cap : Nat) (zs : List Tk3) (hzl : zs.length = len) (hreach : len * 24 ≤ 140737488351232) (w : World) (hBs : Bs < w.heap.size) (hn₀ : n₀ ≤ w.heap.size)
  (hc : w.cell? ⟨Bs, 0, none⟩ = some (.slice a len cap)) (hI : RdB n₀ w a zs) :
  SeqStopsK F n Tryz.prog 147 #[.pointer (some ⟨Bs, 0, none⟩)] (fun x : Tk3 => #[tkVal x]) (Below n₀) (fun ys => ys = zs) (fun pre => pre <+: zs) len w := fun l J Jx W hW hJ _ hY h0 => by
 have hc' := (hW.cell (p := ⟨Bs, 0, none⟩) hBs).trans hc
 by_cases hp : 0 < zs.length
 ·
  obtain ⟨b, off, rfl, hb, hcs⟩ := hI.below (hW.mono hn₀) hp
  exact vals1_in F n h7 hro hn l Bs n₀ b off len cap zs hzl hreach hb J Jx _ hJ hY W (Nat.le_trans hn₀ hW.size) hc' hcs h0
 ·
  obtain rfl : zs = [] := List.eq_nil_of_length_eq_zero (by omega)
  obtain rfl : len = 0 := by simpa using hzl.symm
  exact (vals1_nil_in F n h7 hro l Bs cap a J W hc' h0).mono fun e W' ⟨he, hj⟩ => ⟨he, .inl ⟨_, rfl, hj⟩⟩
attribute [local go_sem] Oper.semAt_some
def stopT (x : Tk3) : Bool := x.2.1 == 0 || x.1 == 0
theorem stopAlI (x y z : Int) (w : World) : Calls Tryz.prog 90 #[.agg #[.int .i64 x, .int .i64 y, .int .i64 z]] w fun e w' => e = .returned (.bool (stopT (x, y, z))) ∧ w' = w.alloc (.cells #[.int .i64 x, .int .i64 y, .int .i64 z] 64) := by
 show Calls Tryz.prog _ _ _ fun e w' => e = .returned (.bool (y == 0 || x == 0)) ∧ w' = w.alloc (.cells #[.int .i64 x, .int .i64 y, .int .i64 z] 64)
 by_cases hy : y = 0
 ·
  subst hy
  go_enter Tryz.func90, Tryz.ntmps90
  go_wp2
  go_ret
  exact ⟨by simp, rfl⟩
 ·
  have hy' : (y == 0) = false := by simpa using hy
  go_enter Tryz.func90, Tryz.ntmps90
  go_wp2
  go_ret
  exact ⟨by simp [hy'], rfl⟩
theorem cells_two {w : World} {k : Nat} {t : TypeId} {x y : Value} (h : w.heap[k]? = some (.cells #[x, y] t)) : w.cell? ⟨k, 0, none⟩ = some x ∧ w.cell? ⟨k, 1, none⟩ = some y := by
 constructor <;> simp [World.cell?, h]
theorem all_prefix {p zs : List Tk3} (h : p <+: zs) (hf : p.all stopT = false) : zs.all stopT = false := by
 obtain ⟨t, rfl⟩ := h
 rw [List.all_append, hf]
 rfl
abbrev fnT (Bs : Nat) : Value := .func (.func 147) #[] #[.pointer (some ⟨Bs, 0, none⟩)]
abbrev fnH : Value := .func (.func 90) #[] #[]
theorem row_ownFrom {β : Type} (k : Nat) (cs : Array Value) (t : TypeId) (fr : Nat × Nat) : Own (fun (_ : β) (W : World) => W.heap[k]? = some (.cells cs t fr)) := fun s A B row hs hg hr => (grownBy_keeps_cells hg hr hs rfl).trans hs
theorem isSoI (n : Nat) (hn : 6 ≤ n) (a : Option Addr) (len cap : Nat) (zs : List Tk3) (hzl : zs.length = len) (hreach : len * 24 ≤ 140737488351232) (Bs : Nat) (w : World) (hBs : Bs < w.heap.size) (hc : w.cell? ⟨Bs, 0, none⟩ = some (.slice a len cap)) (hI : RdB w.heap.size w a zs) :
  CallsIn Fence.wide n Tryz.prog 91 #[.agg #[fnT Bs, fnH]] w fun e W' => e = .returned (.bool (zs.all stopT)) ∧ Below w.heap.size w W' := by
 have h1 : 1 ≤ n := by omega
 refine callsIn_of_wp_marks Tryz.func91 rfl trivial ?_ rfl
 simp only [Tryz.ntmps91, List.size_toArray, List.length_cons, List.length_nil, Nat.reduceAdd, Nat.reduceSub, Array.replicate_succ, Array.replicate_zero, List.push_toArray, List.append_toArray, List.nil_append, List.cons_append]
 have HC := hq hc
 have HI := hq hI
 clear hc hI
 gi_wp2
 have hs0 : (w.alloc (.cells #[fnT Bs, fnH] 130)).heap.size = w.heap.size + 1 := by simp
 have hT0 : ((w.alloc (.cells #[fnT Bs, fnH] 130)).alloc (.cells #[.bool false] 4)).heap[w.heap.size]? = some (.cells #[fnT Bs, fnH] 130) := (Below.heap_alloc _ _ _ (row_lt (heap_new w _))).trans (heap_new w _)
 have bR := Boxed.new (w.alloc (.cells #[fnT Bs, fnH] 130)) 4 (.bool false)
 rw [hs0] at bR
 have hB0 : Below w.heap.size w ((w.alloc (.cells #[fnT Bs, fnH] 130)).alloc (.cells #[.bool false] 4)) := ((Below.refl _ w).alloc (Nat.le_refl _) _).alloc (by simp) _
 have hsz : ((w.alloc (.cells #[fnT Bs, fnH] 130)).alloc (.cells #[.bool false] 4)).heap.size = w.heap.size + 2 := by simp
 obtain ⟨W0, hW0⟩ : ∃ W0, ((w.alloc (.cells #[fnT Bs, fnH] 130)).alloc (.cells #[.bool false] 4)) = W0 := ⟨_, rfl⟩
 rw [hW0] at hT0 bR hB0 hsz
 (try rw [hW0])
 clear hW0 hs0
 refine wpIn_rangeFunc_ownH rfl h1 (gf := 147) (lb := #[.pointer (some ⟨Bs, 0, none⟩)]) rfl trivial (enters_of Tryz.func147 (by kernel_rfl) rfl)
  (vals_stops Fence.wide (n - 1) trivial rfl (by omega) Bs w.heap.size a len cap zs hzl hreach W0 (by omega) (by omega) ((hB0.cell (p := ⟨Bs, 0, none⟩) hBs).trans HC.out) (HI.out.below hB0)) belowK_t (belowK_b (by omega)) (Below.refl _ _) (fun _ => rfl)
  (fun pre W => (W.heap[w.heap.size]? = some (.cells #[fnT Bs, fnH] 130) ∧ Boxed W (w.heap.size + 1) 4 (.bool false) ∧ pre.all stopT = true) ∧ Below w.heap.size w W)
  (fun c pre W => (c = .ret ∧ Boxed W (w.heap.size + 1) 4 (.bool false) ∧ pre.all stopT = false) ∧ Below w.heap.size w W)
  (OwnFrom.and (OwnFrom.and ((row_ownFrom _ _ _ _).from _) (OwnFrom.and ((boxed_own _ _ _).from _) (ownFrom_pure _ _))) (ownFrom_below (Nat.le_refl _) (by omega)))
  (fun c => OwnFrom.and (OwnFrom.and (ownFrom_pure _ _) (OwnFrom.and ((boxed_own _ _ _).from _) (ownFrom_pure _ _))) (ownFrom_below (Nat.le_refl _) (by omega)))
  ⟨⟨hT0, bR, rfl⟩, hB0⟩
  (fun x a' W => ∃ Bx : Nat, w.heap.size + 2 ≤ Bx ∧ W.heap[Bx]? = some (.cells #[.int .i64 x.1, .int .i64 x.2.1, .int .i64 x.2.2] 64) ∧ a' = { tmps := #[.agg #[fnT Bs, fnH], .pointer (some ⟨w.heap.size, 0, none⟩), .pointer (some ⟨w.heap.size + 1, 0, none⟩), .pointer (some ⟨Bx, 0, none⟩), .pointer (some ⟨w.heap.size, 0, none⟩), fnT Bs, tkVal x, undef, undef, undef, undef, undef], defers := [] })
  (fun x a' s A B row hs hg hr => by
   obtain ⟨Bx, h1, h2, h3⟩ := hs
   exact ⟨Bx, h1, (grownBy_keeps_cells hg (fun r e => (hr r e).2) h2 rfl).trans h2, h3⟩) ?assign ?body ?done ?stop
 case assign =>
  rintro l pre ⟨x, y, z⟩ W K ⟨⟨hT, hb, hp⟩, hB⟩ hK
  gi_wp2
  have hle : w.heap.size + 2 ≤ W.heap.size := row_lt (show W.heap[w.heap.size + 1]? = some _ from hb)
  exact hK _ _ ((KeepsOthers.alloc _ _).from _) ((Below.refl _ W).alloc hB.size _) ⟨⟨(Below.heap_alloc _ _ _ (row_lt hT)).trans hT, hb.alloc _, hp⟩, hB.alloc hB.size _⟩ ⟨W.heap.size, hle, heap_new W _, rfl⟩
 case body =>
  rintro l pre ⟨x, y, z⟩ a' W hl ⟨r, hr⟩ ⟨⟨hT, hb, hp⟩, hB⟩ ⟨Bx, hBx, hX, rfl⟩ hlt
  obtain ⟨b, hbT⟩ : ∃ b, stopT (x, y, z) = b := ⟨_, rfl⟩
  obtain ⟨k0, k1⟩ := cells_two hT
  obtain ⟨⟨x0, x1, x2⟩, _⟩ := boxY_cells hX
  have hle : w.heap.size + 2 ≤ W.heap.size := row_lt (show W.heap[w.heap.size + 1]? = some _ from hb)
  have hba : Boxed (W.alloc (.cells #[.int .i64 x, .int .i64 y, .int .i64 z] 64)) (w.heap.size + 1) 4 (.bool false) := hb.alloc _
  have hTa : (W.alloc (.cells #[.int .i64 x, .int .i64 y, .int .i64 z] 64)).heap[w.heap.size]? = some (.cells #[fnT Bs, fnH] 130) := (Below.heap_alloc _ _ _ (row_lt hT)).trans hT
  have hBa : Below w.heap.size w (W.alloc (.cells #[.int .i64 x, .int .i64 y, .int .i64 z] 64)) := hB.alloc (by omega) _
  have hWa : Below w.heap.size W (W.alloc (.cells #[.int .i64 x, .int .i64 y, .int .i64 z] 64)) := (Below.refl _ W).alloc (by omega) _
  have hKa := KeepsOthers.alloc W (.cells #[.int .i64 x, .int .i64 y, .int .i64 z] 64)
  have HS := hq hbT
  clear hbT
  have hcb := hba.cell
  have hfb := hba.frozen
  cases b
  ·
   gi_wp2_with fail
   refine ⟨trivial, fun _ => by omega, ?_⟩
   refine (CallsIn.inRound l (callsIn_wide.2 (stopAlI x y z _))).mono ?_
   rw [HS.out]
   rintro e w3 ⟨rfl, rfl⟩
   gi_wp2
   refine ⟨(hKa.trans (KeepsOthers.setCell _ _ _)).from _, ⟨rfl, ?_, ?_⟩, hBa.setCell (p := ⟨w.heap.size + 1, 0, none⟩) (by simp) _⟩
   ·
    have h9 := heap_setCell_same _ (w.heap.size + 1) 0 _ _ (.bool false) (show (W.alloc (.cells #[.int .i64 x, .int .i64 y, .int .i64 z] 64)).heap[w.heap.size + 1]? = some (.cells #[.bool false] 4) from hba)
    exact h9
   · rw [List.all_append, List.all_cons, HS.out]; simp
  ·
   gi_wp2_with fail
   refine ⟨trivial, fun _ => by omega, ?_⟩
   refine (CallsIn.inRound l (callsIn_wide.2 (stopAlI x y z _))).mono ?_
   rw [HS.out]
   rintro e w3 ⟨rfl, rfl⟩
   gi_wp2
   exact ⟨hKa.from _, hWa, ⟨hTa, hba, by rw [List.all_append, hp, List.all_cons, HS.out]; rfl⟩, hBa⟩
 case done =>
  rintro D ys W hD rfl ⟨⟨hT, hb, hp⟩, hB⟩ hK
  have hcb := hb.cell
  have hfb := hb.frozen
  gi_wp2
  have hK' := (KeepsOthers.setCell W ⟨w.heap.size + 1, 0, none⟩ (.bool true)).same D _ hK rfl
  refine ⟨by simp, .inl ⟨_, _, rfl, run_takeDeferred hK', ?_⟩⟩
  have hc5 := cell_kept (World.cell?_setCell_same' W ⟨w.heap.size + 1, 0, none⟩ (.bool true) (by rw [hcb]; rfl)) (grownBy_putObj' _ D (.deferred none)) (fun r e => by cases e; exact ⟨_, hK', rfl⟩)
  refine ⟨.bool true, ?_, by rw [hp], (hB.setCell (p := ⟨w.heap.size + 1, 0, none⟩) (by simp) _).trans (belowK_b (w := w) (Nat.le_refl _) _ D _ _ (by omega) hK' rfl rfl)⟩
  simp [results, Tryz.f91, go_sem, hc5]
 case stop =>
  rintro D c pre W hD hpre ⟨⟨rfl, hb, hp⟩, hB⟩ hK
  have hcb := hb.cell
  gi_wp2
  refine ⟨by simp, .inl ⟨_, _, rfl, run_takeDeferred hK, ?_⟩⟩
  have hc5 := cell_kept hcb (grownBy_putObj' _ D (.deferred none)) (fun r e => by cases e; exact ⟨_, hK, rfl⟩)
  refine ⟨.bool false, ?_, by rw [all_prefix hpre hp], hB.trans (belowK_b (w := w) (Nat.le_refl _) W D _ _ (by omega) hK rfl rfl)⟩
  simp [results, Tryz.f91, go_sem, hc5]
theorem stopsI (a : Option Addr) (l : List Tk3) (n cap : Nat) (hl : l.length = n) (hn : n ≤ 1048576) (w : World) (hr : RdY w a l) :
  Calls Tryz.prog 35 #[.slice a n cap] w fun e w' => e = .returned (.bool (l.all stopT)) ∧ Below w.heap.size w w' := by
 have HR := hq hr
 have HL := hq hl
 clear hr hl
 go_enter Tryz.func35, Tryz.ntmps35
 go_wp2_with fail
 refine (callsIn_wide.1 (vals_in Fence.wide 7 trivial rfl a n cap _)).mono ?_
 rintro e w1 ⟨rfl, rfl⟩
 have hb1 : Below w.heap.size w (w.alloc (.cells #[.slice a n cap] 35)) := (Below.refl _ _).alloc (Nat.le_refl _) _
 have HB1 := hq hb1
 have HI : Hid (RdB (w.alloc (.cells #[.slice a n cap] 35)).heap.size (w.alloc (.cells #[.slice a n cap] 35)) a l) := (HR.out.on hb1).bound
 have HC : Hid ((w.alloc (.cells #[.slice a n cap] 35)).cell? ⟨w.heap.size, 0, none⟩ = some (.slice a n cap)) := (Boxed.new w _ _).cell
 clear hb1
 go_wp2_with fail
 refine (callsIn_wide.1 (isSoI 6 (by omega) a n cap l HL.out (by omega) w.heap.size _ (by simp) HC.out HI.out)).mono ?_
 rintro e w2 ⟨rfl, hb2⟩
 have HB2 := bq HB1 hb2
 clear hb2 HB1 HI HC
 go_wp2
 go_ret
 exact ⟨rfl, HB2.out⟩
end Go.Proofs.YtfhhnelffldggaaGreatDoor
namespace Go.Proofs.YtfhhnelffldggaaGreatDoor
open Go.ChangeShapes Go.WideShapes Go.ChangeAt Go.RowKit Go.PlainAid
set_option linter.unusedVariables false
theorem all_at {l : List Tk3} {j : Nat} (h : j < l.length) : (l.take (j + 1)).all stopT = ((l.take j).all stopT && stopT l[j]) := by
 rw [List.take_succ_eq_append_getElem h, List.all_append]
 simp
theorem stopsS (a : Option Addr) (l : List Tk3) (n cap : Nat) (hl : l.length = n) (hn : n ≤ 1048576) (w : World) (hr : RdY w a l) :
  Calls Tryz.prog 39 #[.slice a n cap] w fun e w' => e = .returned (.bool (l.all stopT)) ∧ Below w.heap.size w w' := by
 have HL := hq hl
 by_cases hp : 0 < n
 ·
  obtain ⟨g, off, rfl, hc⟩ := hr (by omega)
  have HC := hq hc
  clear hr hc hl
  go_enter Tryz.func39, Tryz.ntmps39
  go_wp2
  go_loopw [3] (fun i wr => ∃ (j : Nat), j ≤ n ∧ i = .int .i64 j ∧ wr = w ∧ Hid ((l.take j).all stopT = true)) (fun i _ => n - (intOf i).toNat)
  case atStart => exact ⟨0, Nat.zero_le _, rfl, rfl, (rfl : (l.take 0).all stopT = true)⟩
  case round =>
   obtain ⟨j, hj, rfl, rfl, HE⟩ := hrel
   by_cases hlt : j < n
   ·
    have hjl : j < l.length := by have := HL.out; omega
    obtain ⟨c0, c1, c2⟩ := HC.out j hjl
    obtain ⟨x, y, z, hx⟩ : ∃ x y z, l[j] = ((x, y, z) : Tk3) := ⟨_, _, _, rfl⟩
    rw [hx] at c0 c1 c2
    have hall := all_at hjl
    rw [HE.out, hx] at hall
    have i0 : (0 : Int) ≤ (j : Int) := by omega
    have i1 : (j : Int) < (n : Int) := by omega
    have HA := hq hall
    clear hx hall hjl HE
    by_cases hy : y = 0
    ·
     subst hy
     have HN : Hid ((l.take (j + 1)).all stopT = true) := by show _ = _; rw [HA.out]; simp [stopT]
     clear HA
     go_wp2
     go_roundw
     case rel => exact ⟨j + 1, by omega, by go_num, trivial, HN⟩
     case measure => simp [intOf]; omega
    ·
     have hy' : (y == 0) = false := by simpa using hy
     by_cases hx0 : x = 0
     ·
      subst hx0
      have HN : Hid ((l.take (j + 1)).all stopT = true) := by show _ = _; rw [HA.out]; simp [stopT]
      clear HA
      go_wp2
      go_roundw
      case rel => exact ⟨j + 1, by omega, by go_num, trivial, HN⟩
      case measure => simp [intOf]; omega
     ·
      have hx' : (x == 0) = false := by simpa using hx0
      have HN : Hid (l.all stopT = false) := (all_prefix (List.take_prefix (j + 1) l) (by rw [HA.out]; simp [stopT, hx0, hy]))
      clear HA
      have hy2 : (y != 0) = true := by simpa using hy
      have hx2 : (x != 0) = true := by simpa using hx0
      clear hy hx0 hx' hy'
      go_wp2
      all_goals (try (exfalso; rename_i hor; rcases hor with h | h <;> simp_all))
      go_ret
      rw [HN.out]
      exact ⟨rfl, Below.refl _ _⟩
   ·
    have HN : Hid (l.all stopT = true) := by show _ = _; have h := HE.out; rwa [List.take_of_length_le (by have := HL.out; omega)] at h
    clear HE
    go_wp2
    go_ret
    rw [HN.out]
    exact ⟨rfl, Below.refl _ _⟩
 ·
  obtain rfl : n = 0 := by omega
  obtain rfl : l = [] := List.eq_nil_of_length_eq_zero hl
  clear hr hp hl
  go_enter Tryz.func39, Tryz.ntmps39
  go_wp2
  go_rounds 1
  go_ret
  exact ⟨rfl, Below.refl _ _⟩
end Go.Proofs.YtfhhnelffldggaaGreatDoor
namespace Go.Proofs.YtfhhnelffldggaaGreatDoor
open Go.RowKit Go.PlainAid Go.Shelf
set_option linter.unusedVariables false
def Rounds (m : Nat) (gf : Nat) (lb : Array Value) (encs : Nat → Array Value) (N : Nat) (w0 : World) : Prop :=
 ∀ (l : Nat) (J : Nat → World → Prop) (W : World), Below w0.heap.size w0 W → w0.heap.size ≤ l → l < W.heap.size → (∀ j A B, J j A → Below W.heap.size A B → J j B) →
  (∀ j W1, j < N → J j W1 → YieldAt Fence.wide (m - 1) Tryz.prog l (encs j) W1 fun e W' => e = .returned (.bool true) ∧ J (j + 1) W' ∧ W1.grownBy W' (some l)) →
  J 0 W → CallsIn Fence.wide m Tryz.prog gf (#[.func (.yield l) #[] #[]] ++ lb) W fun e W' => (∃ v, e = .returned v) ∧ J N W'
theorem grownBy_trans' {A B C : World} {r : Option Nat} (h : A.grownBy B r) (k : B.grownBy C r) : A.grownBy C r :=
 ⟨k.os.trans h.os, k.tape.trans h.tape, k.output.trans h.output, Nat.le_trans h.size k.size, fun i hi hr => (k.block i (Nat.lt_of_lt_of_le hi h.size) hr).trans (h.block i hi hr)⟩
theorem below_grown' {A B : World} {r : Nat} (h : Below A.heap.size A B) : A.grownBy B (some r) := ⟨h.os, h.tape, h.output, h.size, fun i hi _ => h.block i hi⟩
theorem grown_below' {A B : World} {r n : Nat} (h : A.grownBy B (some r)) (hn : n ≤ r) (hA : n ≤ A.heap.size) : Below n A B := ⟨h.os, h.tape, h.output, h.size, fun i hi => h.block i (Nat.lt_of_lt_of_le hi hA) (fun e => by cases e; omega)⟩
theorem range_rounds {ps : Array Tmp} {assign body : Code} {Q : Exit → Act → World → Prop} {a : Act} {w : World} {n : Nat} (h1 : 1 ≤ n) {g : Operand} {gf : Nat} {lb : Array Value} (hg : a.eval g = .func (.func gf) #[] lb)
  (eg : ∀ args w, (callFunc gf args).run Tryz.prog w = .ok (.enter gf args) w) {encs : Nat → Array Value} {N : Nat} (hseq : Rounds (n - 1) gf lb encs N w) (hps : ∀ j, (encs j).size = ps.size)
  (I : Nat → World → Prop) (hI : ∀ j A B, I j A → Below w.heap.size A B → I j B) (h0 : I 0 w)
  (hround : ∀ (l j : Nat) (W : World), j < N → I j W → w.heap.size ≤ l → l < W.heap.size →
   assign.wpIn (Fence.wide.inRound l) (n - 1 - 1) Tryz.prog (Exit.then (fun a' W' => Below W.heap.size W W' ∧ ∀ W2, W'.grownBy W2 (some l) → I j W2 →
    body.wpIn (Fence.wide.inRound l) (n - 1 - 1) Tryz.prog (fun e a3 W3 => e = Exit.normal ∧ Below W2.heap.size W2 W3 ∧ I (j + 1) W3) a' W2) (fun _ _ _ => False))
    { tmps := (ps.zip (encs j)).foldl (fun t (p, v) => t.setIfInBounds p v) a.tmps, defers := [] } W)
  (hdone : ∀ (W : World), I N W → w.heap.size < W.heap.size → W.heap[w.heap.size]? = some (.deferred (some [])) → Q .normal { a with defers := { target := .collected w.heap.size, args := #[] } :: a.defers } W) :
  (Code.rangeFunc g ps assign body).wpIn Fence.wide n Tryz.prog Q a w := by
 refine wpIn_rangeFunc ?_
 intro fn hfn
 rw [show Fence.wide.round = none from rfl]
 obtain ⟨rec, hrec⟩ : ∃ rec : LoopState → Option Code → Loop, rec = fun st pe => { state := st, pending := pe, fn, tmps := a.tmps, params := ps, assign, body, defers := w.heap.size } := ⟨_, rfl⟩
 obtain ⟨W1, hW1⟩ : ∃ W1, (w.alloc (.deferred (some []))).alloc (.loop (rec .ready none)) = W1 := ⟨_, rfl⟩
 have hs1 : W1.heap.size = w.heap.size + 2 := by rw [← hW1]; simp
 have hL1 : W1.heap[w.heap.size + 1]? = some (.loop (rec .ready none)) := by
  rw [← hW1]; have := World.alloc_heap_new (w.alloc (.deferred (some []))) (.loop (rec .ready none)); rwa [World.size_alloc] at this
 have hK1 : W1.heap[w.heap.size]? = some (.deferred (some [])) := by
  rw [← hW1]; exact (Below.heap_alloc _ _ _ (by simp)).trans (World.alloc_heap_new w _)
 have hb1 : Below w.heap.size w W1 := by rw [← hW1]; exact ((Below.refl _ w).alloc (Nat.le_refl _) _).alloc (by simp) _
 refine ⟨w.heap.size + 1, [{ target := .collected w.heap.size, args := #[] }], W1, { target := .fn (.func gf) lb, args := #[.func (.yield (w.heap.size + 1)) #[] #[]] }, W1, gf,
  #[.func (.yield (w.heap.size + 1)) #[] #[]] ++ lb, W1, ?_, ?_, ?_, ?_, fun _ => h1, ?_⟩
 · rw [← hW1, hrec]; exact run_enterLoop_outer _ _ _ _ _
 ·
  simp only [resolve, hg]
  simp [go_sem]
 · intro f' hf'; simp [Target.leads] at hf'; subst hf'; exact trivial
 · simp [invoke, go_sem, eg]
 ·
  refine (hseq (w.heap.size + 1)
   (fun j W => I j W ∧ W.heap[w.heap.size + 1]? = some (.loop (rec .ready none)) ∧ W.heap[w.heap.size]? = some (.deferred (some [])))
   W1 hb1 (by omega) (by omega)
   (fun j A B hs hb => ⟨hI j A B hs.1 (hb.mono (by omega)), (hb.block _ (by omega)).trans hs.2.1, (hb.block _ (by omega)).trans hs.2.2⟩)
   ?_ ⟨hI 0 _ _ h0 hb1, hL1, hK1⟩).mono ?_
  ·
   rintro j W hj ⟨hi, hl, hk⟩
   have hlt : w.heap.size + 1 < W.heap.size := (Array.getElem?_eq_some_iff.1 hl).1
   have hy := run_yield (P := Tryz.prog) (args := encs j) hl (by rw [hrec]; exact hps j)
   rw [hrec] at hy
   refine ⟨fn, _, assign, body, hy, roundIn_of_wpIn hfn (wpIn_mono (hround (w.heap.size + 1) j W hj hi (by omega) hlt) ?_)⟩
   clear hy
   rintro e a' W' hp
   cases e with
   | normal =>
    obtain ⟨hba, hbody⟩ := hp
    have hl' : W'.heap[w.heap.size + 1]? = some (.loop (rec .ready none)) := (hba.block _ hlt).trans hl
    have hk' : W'.heap[w.heap.size]? = some (.deferred (some [])) := (hba.block _ (by omega)).trans hk
    have hlt' : w.heap.size + 1 < W'.heap.size := (Array.getElem?_eq_some_iff.1 hl').1
    refine ⟨_, run_beginRound hl' (by rw [hrec]), ?_⟩
    have hg2 : W'.grownBy (W'.putObj (w.heap.size + 1) (.loop { rec .ready none with state := .busy })) (some (w.heap.size + 1)) := grownBy_putObj' _ _ _
    have hl2 : (W'.putObj (w.heap.size + 1) (.loop { rec .ready none with state := .busy })).heap[w.heap.size + 1]? = some (.loop { rec .ready none with state := .busy }) := World.putObj_heap_same hlt'
    have hk2 : (W'.putObj (w.heap.size + 1) (.loop { rec .ready none with state := .busy })).heap[w.heap.size]? = some (.deferred (some [])) := (World.putObj_heap_other (by omega)).trans hk'
    have hi' : I j W' := hI _ _ _ hi (hba.mono (by omega))
    have hi2 := hI _ _ _ hi' (grown_below' hg2 (by omega) (by omega))
    refine wpIn_mono (hbody _ hg2 hi2) ?_
    rintro e a3 W3 ⟨rfl, hb3, hi3⟩
    have hlt2 := (Array.getElem?_eq_some_iff.1 hl2).1
    have hl3 : W3.heap[w.heap.size + 1]? = some (.loop { rec .ready none with state := .busy }) := (hb3.block _ hlt2).trans hl2
    have hk3 : W3.heap[w.heap.size]? = some (.deferred (some [])) := (hb3.block _ (Array.getElem?_eq_some_iff.1 hk2).1).trans hk2
    have hr : (Instr.endRound (w.heap.size + 1) none).run Tryz.prog W3 = .ok (.bool true) (W3.putObj (w.heap.size + 1) (.loop (rec .ready none))) := by
     have := run_endRound (P := Tryz.prog) none hl3
     rw [hrec] at this ⊢
     exact this
    have hg4 : W3.grownBy (W3.putObj (w.heap.size + 1) (.loop (rec .ready none))) (some (w.heap.size + 1)) := grownBy_putObj' _ _ _
    have hlt3 := (Array.getElem?_eq_some_iff.1 hl3).1
    refine ⟨_, _, hr, rfl, ⟨hI _ _ _ hi3 (grown_below' hg4 (by omega) (by omega)), World.putObj_heap_same hlt3, (World.putObj_heap_other (by omega)).trans hk3⟩, ?_⟩
    exact grownBy_trans' (below_grown' hba) (grownBy_trans' hg2 (grownBy_trans' (below_grown' hb3) hg4))
   | ret => exact hp.elim
   | exit id => exact hp.elim
   | goto t => exact hp.elim
   | panic ch => exact hp.elim
   | outgrown => exact hp.elim
  ·
   rintro e W2 ⟨⟨v, rfl⟩, hi, hl, hk⟩
   have hlt := (Array.getElem?_eq_some_iff.1 hl).1
   refine ⟨none, _, by have := run_endLoop (P := Tryz.prog) hl (by rw [hrec]; simp); rw [hrec] at this; exact this, hdone _ (hI _ _ _ hi (grown_below' (grownBy_putObj' _ (w.heap.size + 1) _) (by omega) (by omega))) (by simp; omega) ((World.putObj_heap_other (by omega)).trans hk)⟩
end Go.Proofs.YtfhhnelffldggaaGreatDoor
