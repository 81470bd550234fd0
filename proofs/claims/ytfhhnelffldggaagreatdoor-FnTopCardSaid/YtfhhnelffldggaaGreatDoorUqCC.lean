/-
  A latch that is held; a range over latches.
-/
import Derived.Test.YtfhhnelffldggaaGreatDoorUqBY
import Derived.Test.YtfhhnelffldggaaGreatDoorUqBM
import Derived.Test.YtfhhnelffldggaaGreatDoorUqCB
set_option maxRecDepth 100000
set_option maxHeartbeats 16000000
namespace Go.Proofs.YtfhhnelffldggaaGreatDoor
open Go.ChangeShapes Go.WideShapes Go.ChangeAt Go.RowKit Go.PlainAid Go.Shelf
set_option linter.unusedVariables false
set_option linter.unusedSimpArgs false
attribute [local go_sem] Oper.semAt_some
theorem cells_quad {w : World} {k : Nat} {t : TypeId} {x y z u : Value} (h : w.heap[k]? = some (.cells #[x, y, z, u] t)) : w.cell? ⟨k, 0, none⟩ = some x ∧ w.cell? ⟨k, 1, none⟩ = some y ∧ w.cell? ⟨k, 2, none⟩ = some z ∧ w.cell? ⟨k, 3, none⟩ = some u := by
 refine ⟨?_, ?_, ?_, ?_⟩ <;> simp [World.cell?, h]
theorem cells_two' {w : World} {k : Nat} {t : TypeId} {x y : Value} (h : w.heap[k]? = some (.cells #[x, y] t)) : w.cell? ⟨k, 0, none⟩ = some x ∧ w.cell? ⟨k, 1, none⟩ = some y := by
 constructor <;> simp [World.cell?, h]
def HeldJ (a b p : Int) (s : Bool) : Prop := (0 ≤ b ∧ b ≤ 15) ∧ (0 ≤ p ∧ p ≤ 15) ∧ a = if s = true then b else G.orI p b
theorem heldI (a b p : Int) (s : Bool) (h : HeldJ a b p s) (w : World) : Calls Tryz.prog 42 #[.agg #[.int .i64 a, .int .i64 b, .int .i64 p, .bool s]] w fun e w' => e = .returned (.bool true) ∧ Below w.heap.size w w' := by
 obtain ⟨hb, hp, ha⟩ := h
 cases s
 ·
  have ha' : a = G.orI p b := ha
  have q0 := G.or_is hb hp
  have q1 := and_or15 hp hb
  rw [← ha'] at q1
  obtain ⟨m, hm⟩ : ∃ m, G.orI b p = m := ⟨_, rfl⟩
  rw [hm] at q0 q1
  have q2 : bits BinOp.or IntKind.i64 b p = m := q0
  have q3 : bits BinOp.and IntKind.i64 a m = m := q1
  clear ha ha' hm q0 q1
  go_enter Tryz.func42, Tryz.ntmps42
  go_wp2
  go_ret
  exact ⟨by simp [q2, q3], alM _ _⟩
 ·
  have ha' : a = b := ha
  subst ha'
  have q1 := and_self15 hb
  have q3 : bits BinOp.and IntKind.i64 a a = a := q1
  clear ha q1
  go_enter Tryz.func42, Tryz.ntmps42
  go_wp2
  go_ret
  exact ⟨by simp [q3], alM _ _⟩
abbrev latV (a b p : Int) (s : Bool) : Value := .agg #[.int .i64 a, .int .i64 b, .int .i64 p, .bool s]
abbrev fnL (Bl Bi : Nat) : Value := .func (.func 99) #[] #[.pointer (some ⟨Bl, 0, none⟩), .pointer (some ⟨Bi, 0, none⟩)]
abbrev fnLH : Value := .func (.func 42) #[] #[]
theorem isSoH (n : Nat) (hn : 6 ≤ n) (N : Nat) (fa fb fp : Nat → Int) (fs : Nat → Bool) (hh : ∀ j, j < N → HeldJ (fa j) (fb j) (fp j) (fs j)) (Bl Bi : Nat) (w : World)
  (hseq : ∀ W0, Below w.heap.size w W0 → Rounds (n - 1) 99 #[.pointer (some ⟨Bl, 0, none⟩), .pointer (some ⟨Bi, 0, none⟩)] (fun j => #[latV (fa j) (fb j) (fp j) (fs j)]) N W0) :
  CallsIn Fence.wide n Tryz.prog 43 #[.agg #[fnL Bl Bi, fnLH]] w fun e W' => e = .returned (.bool true) ∧ Below w.heap.size w W' := by
 have h1 : 1 ≤ n := by omega
 refine callsIn_of_wp_marks Tryz.func43 rfl trivial ?_ rfl
 simp only [Tryz.ntmps43, List.size_toArray, List.length_cons, List.length_nil, Nat.reduceAdd, Nat.reduceSub, Array.replicate_succ, Array.replicate_zero, List.push_toArray, List.append_toArray, List.nil_append, List.cons_append]
 gi_wp2
 have hs0 : (w.alloc (.cells #[fnL Bl Bi, fnLH] 74)).heap.size = w.heap.size + 1 := by simp
 have hT0 : ((w.alloc (.cells #[fnL Bl Bi, fnLH] 74)).alloc (.cells #[.bool false] 4)).heap[w.heap.size]? = some (.cells #[fnL Bl Bi, fnLH] 74) := (Below.heap_alloc _ _ _ (row_lt (heap_new w _))).trans (heap_new w _)
 have bR := Boxed.new (w.alloc (.cells #[fnL Bl Bi, fnLH] 74)) 4 (.bool false)
 rw [hs0] at bR
 have hB0 : Below w.heap.size w ((w.alloc (.cells #[fnL Bl Bi, fnLH] 74)).alloc (.cells #[.bool false] 4)) := ((Below.refl _ w).alloc (Nat.le_refl _) _).alloc (by simp) _
 have hsz : ((w.alloc (.cells #[fnL Bl Bi, fnLH] 74)).alloc (.cells #[.bool false] 4)).heap.size = w.heap.size + 2 := by simp
 obtain ⟨W0, hW0⟩ : ∃ W0, ((w.alloc (.cells #[fnL Bl Bi, fnLH] 74)).alloc (.cells #[.bool false] 4)) = W0 := ⟨_, rfl⟩
 rw [hW0] at hT0 bR hB0 hsz
 (try rw [hW0])
 clear hW0 hs0
 refine range_rounds h1 (gf := 99) (lb := #[.pointer (some ⟨Bl, 0, none⟩), .pointer (some ⟨Bi, 0, none⟩)]) rfl (enters_of Tryz.func99 (by kernel_rfl) rfl)
  (hseq W0 hB0) (fun _ => rfl)
  (fun j W => (W.heap[w.heap.size]? = some (.cells #[fnL Bl Bi, fnLH] 74) ∧ Boxed W (w.heap.size + 1) 4 (.bool false)) ∧ Below w.heap.size w W)
  (fun j A B hs hb => ⟨⟨(hb.block _ (by omega)).trans hs.1.1, (hb.block _ (by omega)).trans hs.1.2⟩, hs.2.trans (hb.mono (by omega))⟩)
  ⟨⟨hT0, bR⟩, hB0⟩ ?round ?done
 case round =>
  rintro l j W hj ⟨⟨hT, hb⟩, hB⟩ hl0 hl1
  gi_wp2
  refine ⟨alM _ _, fun W2 hg hi => ?_⟩
  obtain ⟨⟨hT2, hb2⟩, hB2⟩ := hi
  have hX2 : W2.heap[W.heap.size]? = some (.cells #[.int .i64 (fa j), .int .i64 (fb j), .int .i64 (fp j), .bool (fs j)] 72) := (hg.block _ (by simp) (fun e => by cases e; omega)).trans (heap_new W _)
  obtain ⟨k0, k1⟩ := cells_two' hT2
  obtain ⟨x0, x1, x2, x3⟩ := cells_quad hX2
  have HT := hq hT2
  have HBx := hq hb2
  have HBl := hq hB2
  have CM := heldI (fa j) (fb j) (fp j) (fs j) (hh j hj) W2
  generalize fa j = a_ at *
  generalize fb j = b_ at *
  generalize fp j = p_ at *
  generalize fs j = s_ at *
  clear hT hb hB hT2 hb2 hB2 hg hX2
  gi_wp2_with fail
  refine ⟨trivial, fun _ => by omega, ?_⟩
  refine (CallsIn.inRound l (callsIn_wide.2 CM)).mono ?_
  rintro e w3 ⟨rfl, hb3⟩
  gi_wp2
  exact ⟨⟨row_on HT.out hb3, row_on (show W2.heap[w.heap.size + 1]? = some _ from HBx.out) hb3⟩, bel_on (Nat.le_refl _) HBl.out hb3⟩
 case done =>
  rintro W ⟨⟨hT, hb⟩, hB⟩ hD hK
  have hcb := hb.cell
  have hfb := hb.frozen
  gi_wp2
  have hK' := (KeepsOthers.setCell W ⟨w.heap.size + 1, 0, none⟩ (.bool true)).same _ _ hK rfl
  refine ⟨by simp, .inl ⟨_, _, rfl, run_takeDeferred hK', ?_⟩⟩
  have hc5 := cell_kept (World.cell?_setCell_same' W ⟨w.heap.size + 1, 0, none⟩ (.bool true) (by rw [hcb]; rfl)) (grownBy_putObj' _ W0.heap.size (.deferred none)) (fun r e => by cases e; exact ⟨_, hK', rfl⟩)
  refine ⟨.bool true, ?_, rfl, (hB.setCell (p := ⟨w.heap.size + 1, 0, none⟩) (by simp) _).trans (belowK_b (w := w) (Nat.le_refl _) _ W0.heap.size _ _ (by omega) hK' rfl rfl)⟩
  simp [results, Tryz.f43, go_sem, hc5]
end Go.Proofs.YtfhhnelffldggaaGreatDoor
