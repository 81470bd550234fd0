/-
  StopsOnAlarm, of the program: a range over slices.Values.
-/
import Derived.Test.YtfdhcchakoldpaaValI
namespace Go.Proofs.Ytfdhcchakoldpaa
open Go.ChangeShapes Go.WideShapes Go.ChangeAt Go.RowKit Go.PlainAid Go.Shelf
set_option linter.unusedVariables false

attribute [local go_sem] Oper.semAt_some

/-- nothing is given in a tick with an alarm -/
def stopT (x : Tk3) : Bool := x.2.1 == 0 || x.1 == 0
set_option maxRecDepth 100000 in
set_option maxHeartbeats 1000000 in
theorem stopAlI (x y z : Int) (w : World) : Calls Try.prog 41 #[.agg #[.int .i64 x, .int .i64 y, .int .i64 z]] w fun e w' => e = .returned (.bool (stopT (x, y, z))) ∧ w' = w.alloc (.cells #[.int .i64 x, .int .i64 y, .int .i64 z] 117) := by
  show Calls Try.prog _ _ _ fun e w' => e = .returned (.bool (y == 0 || x == 0)) ∧ w' = w.alloc (.cells #[.int .i64 x, .int .i64 y, .int .i64 z] 117)
  by_cases hy : y = 0
  · subst hy
    go_enter Try.func41, Try.ntmps41
    go_wp2
    go_ret
    exact ⟨by simp, rfl⟩
  · have hy' : (y == 0) = false := by simpa using hy
    go_enter Try.func41, Try.ntmps41
    go_wp2
    go_ret
    exact ⟨by simp [hy'], rfl⟩
theorem cells_two {w : World} {k : Nat} {t : TypeId} {x y : Value} (h : w.heap[k]? = some (.cells #[x, y] t)) : w.cell? ⟨k, 0, none⟩ = some x ∧ w.cell? ⟨k, 1, none⟩ = some y := by
  constructor <;> simp [World.cell?, h]
theorem all_prefix {p zs : List Tk3} (h : p <+: zs) (hf : p.all stopT = false) : zs.all stopT = false := by
  obtain ⟨t, rfl⟩ := h
  rw [List.all_append, hf]
  rfl
abbrev fnT (Bs : Nat) : Value := .func (.func 95) #[] #[.pointer (some ⟨Bs, 0, none⟩)]
abbrev fnH : Value := .func (.func 41) #[] #[]
theorem row_ownFrom {β : Type} (k : Nat) (cs : Array Value) (t : TypeId) (fr : Nat × Nat) : Own (fun (_ : β) (W : World) => W.heap[k]? = some (.cells cs t fr)) := fun s A B row hs hg hr => (grownBy_keeps_cells hg hr hs rfl).trans hs
set_option maxRecDepth 100000 in
set_option maxHeartbeats 4000000 in
theorem isSoI (n : Nat) (hn : 6 ≤ n) (a : Option Addr) (len cap : Nat) (zs : List Tk3) (hzl : zs.length = len) (hreach : len * 24 ≤ 140737488351232) (Bs : Nat) (w : World) (hBs : Bs < w.heap.size) (hc : w.cell? ⟨Bs, 0, none⟩ = some (.slice a len cap)) (hI : RdB w.heap.size w a zs) :
    CallsIn Fence.wide n Try.prog 42 #[.agg #[fnT Bs, fnH]] w fun e W' => e = .returned (.bool (zs.all stopT)) ∧ Below w.heap.size w W' := by
  have h1 : 1 ≤ n := by omega
  refine callsIn_of_wp_marks Try.func42 rfl trivial ?_ rfl
  simp only [Try.ntmps42, List.size_toArray, List.length_cons, List.length_nil, Nat.reduceAdd, Nat.reduceSub, Array.replicate_succ, Array.replicate_zero, List.push_toArray, List.append_toArray, List.nil_append, List.cons_append]
  have HC : Hid (w.cell? ⟨Bs, 0, none⟩ = some (.slice a len cap)) := hc
  have HI : Hid (RdB w.heap.size w a zs) := hI
  clear hc hI
  gi_wp2
  have hs0 : (w.alloc (.cells #[fnT Bs, fnH] 126)).heap.size = w.heap.size + 1 := by simp
  have hT0 : ((w.alloc (.cells #[fnT Bs, fnH] 126)).alloc (.cells #[.bool false] 4)).heap[w.heap.size]? = some (.cells #[fnT Bs, fnH] 126) := (Below.heap_alloc _ _ _ (row_lt (heap_new w _))).trans (heap_new w _)
  have bR := Boxed.new (w.alloc (.cells #[fnT Bs, fnH] 126)) 4 (.bool false)
  rw [hs0] at bR
  have hB0 : Below w.heap.size w ((w.alloc (.cells #[fnT Bs, fnH] 126)).alloc (.cells #[.bool false] 4)) := ((Below.refl _ w).alloc (Nat.le_refl _) _).alloc (by simp) _
  have hsz : ((w.alloc (.cells #[fnT Bs, fnH] 126)).alloc (.cells #[.bool false] 4)).heap.size = w.heap.size + 2 := by simp
  obtain ⟨W0, hW0⟩ : ∃ W0, ((w.alloc (.cells #[fnT Bs, fnH] 126)).alloc (.cells #[.bool false] 4)) = W0 := ⟨_, rfl⟩
  rw [hW0] at hT0 bR hB0 hsz
  (try rw [hW0])
  clear hW0 hs0
  refine wpIn_rangeFunc_ownH rfl h1 (gf := 95) (lb := #[.pointer (some ⟨Bs, 0, none⟩)]) rfl trivial (enters_of Try.func95 (by kernel_rfl) rfl)
    (vals_stops Fence.wide (n - 1) trivial rfl (by omega) Bs w.heap.size a len cap zs hzl hreach W0 (by omega) (by omega) ((hB0.cell (p := ⟨Bs, 0, none⟩) hBs).trans HC.out) (HI.out.below hB0)) belowK_t (belowK_b (by omega)) (Below.refl _ _) (fun _ => rfl)
    (fun pre W => (W.heap[w.heap.size]? = some (.cells #[fnT Bs, fnH] 126) ∧ Boxed W (w.heap.size + 1) 4 (.bool false) ∧ pre.all stopT = true) ∧ Below w.heap.size w W)
    (fun c pre W => (c = .ret ∧ Boxed W (w.heap.size + 1) 4 (.bool false) ∧ pre.all stopT = false) ∧ Below w.heap.size w W)
    (OwnFrom.and (OwnFrom.and ((row_ownFrom _ _ _ _).from _) (OwnFrom.and ((boxed_own _ _ _).from _) (ownFrom_pure _ _))) (ownFrom_below (Nat.le_refl _) (by omega)))
    (fun c => OwnFrom.and (OwnFrom.and (ownFrom_pure _ _) (OwnFrom.and ((boxed_own _ _ _).from _) (ownFrom_pure _ _))) (ownFrom_below (Nat.le_refl _) (by omega)))
    ⟨⟨hT0, bR, rfl⟩, hB0⟩
    (fun x a' W => ∃ Bx : Nat, w.heap.size + 2 ≤ Bx ∧ W.heap[Bx]? = some (.cells #[.int .i64 x.1, .int .i64 x.2.1, .int .i64 x.2.2] 117) ∧ a' = { tmps := #[.agg #[fnT Bs, fnH], .pointer (some ⟨w.heap.size, 0, none⟩), .pointer (some ⟨w.heap.size + 1, 0, none⟩), .pointer (some ⟨Bx, 0, none⟩), .pointer (some ⟨w.heap.size, 0, none⟩), fnT Bs, tkA x, undef, undef, undef, undef, undef], defers := [] })
    (fun x a' s A B row hs hg hr => by
      obtain ⟨Bx, h1, h2, h3⟩ := hs
      exact ⟨Bx, h1, (grownBy_keeps_cells hg (fun r e => (hr r e).2) h2 rfl).trans h2, h3⟩) ?assign ?body ?done ?stop
  case assign =>
    rintro l pre ⟨x, y, z⟩ W K ⟨⟨hT, hb, hp⟩, hB⟩ hK
    gi_wp2
    have hle : w.heap.size + 2 ≤ W.heap.size := row_lt (show W.heap[w.heap.size + 1]? = some _ from hb)
    exact hK _ _ ((KeepsOthers.alloc _ _).from _) ((Below.refl _ W).alloc hB.size _) ⟨⟨(Below.heap_alloc _ _ _ (row_lt hT)).trans hT, hb.alloc _, hp⟩, hB.alloc hB.size _⟩ ⟨W.heap.size, hle, heap_new W _, rfl⟩
  case body =>
    rintro l pre ⟨x, y, z⟩ a' W hl ⟨r, hr⟩ ⟨⟨hT, hb, hp⟩, hB⟩ ⟨Bx, hBx, hX, rfl⟩ hlt
    obtain ⟨b, hbT⟩ : ∃ b, stopT (x, y, z) = b := ⟨_, rfl⟩
    obtain ⟨k0, k1⟩ := cells_two hT
    obtain ⟨⟨x0, x1, x2⟩, _⟩ := boxY_cells hX
    have hle : w.heap.size + 2 ≤ W.heap.size := row_lt (show W.heap[w.heap.size + 1]? = some _ from hb)
    have hba : Boxed (W.alloc (.cells #[.int .i64 x, .int .i64 y, .int .i64 z] 117)) (w.heap.size + 1) 4 (.bool false) := hb.alloc _
    have hTa : (W.alloc (.cells #[.int .i64 x, .int .i64 y, .int .i64 z] 117)).heap[w.heap.size]? = some (.cells #[fnT Bs, fnH] 126) := (Below.heap_alloc _ _ _ (row_lt hT)).trans hT
    have hBa : Below w.heap.size w (W.alloc (.cells #[.int .i64 x, .int .i64 y, .int .i64 z] 117)) := hB.alloc (by omega) _
    have hWa : Below w.heap.size W (W.alloc (.cells #[.int .i64 x, .int .i64 y, .int .i64 z] 117)) := (Below.refl _ W).alloc (by omega) _
    have hKa := KeepsOthers.alloc W (.cells #[.int .i64 x, .int .i64 y, .int .i64 z] 117)
    have HS : Hid (stopT (x, y, z) = b) := hbT
    clear hbT
    have hcb := hba.cell
    have hfb := hba.frozen
    cases b
    · gi_wp2_with fail
      refine ⟨trivial, fun _ => by omega, ?_⟩
      refine (CallsIn.inRound l (callsIn_wide.2 (stopAlI x y z _))).mono ?_
      rw [HS.out]
      rintro e w3 ⟨rfl, rfl⟩
      gi_wp2
      refine ⟨(hKa.trans (KeepsOthers.setCell _ _ _)).from _, ⟨rfl, ?_, ?_⟩, hBa.setCell (p := ⟨w.heap.size + 1, 0, none⟩) (by simp) _⟩
      · have h9 := heap_setCell_same _ (w.heap.size + 1) 0 _ _ (.bool false) (show (W.alloc (.cells #[.int .i64 x, .int .i64 y, .int .i64 z] 117)).heap[w.heap.size + 1]? = some (.cells #[.bool false] 4) from hba)
        exact h9
      · rw [List.all_append, List.all_cons, HS.out]; simp
    · gi_wp2_with fail
      refine ⟨trivial, fun _ => by omega, ?_⟩
      refine (CallsIn.inRound l (callsIn_wide.2 (stopAlI x y z _))).mono ?_
      rw [HS.out]
      rintro e w3 ⟨rfl, rfl⟩
      gi_wp2
      exact ⟨hKa.from _, hWa, ⟨hTa, hba, by rw [List.all_append, hp, List.all_cons, HS.out]; rfl⟩, hBa⟩
  case done =>
    rintro D ys W hD rfl ⟨⟨hT, hb, hp⟩, hB⟩ hK
    have hcb := hb.cell
    have hfb := hb.frozen
    gi_wp2
    have hK' := (KeepsOthers.setCell W ⟨w.heap.size + 1, 0, none⟩ (.bool true)).same D _ hK rfl
    refine ⟨by simp, .inl ⟨_, _, rfl, run_takeDeferred hK', ?_⟩⟩
    have hc5 := cell_kept (World.cell?_setCell_same' W ⟨w.heap.size + 1, 0, none⟩ (.bool true) (by rw [hcb]; rfl)) (grownBy_putObj' _ D (.deferred none)) (fun r e => by cases e; exact ⟨_, hK', rfl⟩)
    refine ⟨.bool true, ?_, by rw [hp], (hB.setCell (p := ⟨w.heap.size + 1, 0, none⟩) (by simp) _).trans (belowK_b (w := w) (Nat.le_refl _) _ D _ _ (by omega) hK' rfl rfl)⟩
    simp [results, Try.f42, go_sem, hc5]
  case stop =>
    rintro D c pre W hD hpre ⟨⟨rfl, hb, hp⟩, hB⟩ hK
    have hcb := hb.cell
    gi_wp2
    refine ⟨by simp, .inl ⟨_, _, rfl, run_takeDeferred hK, ?_⟩⟩
    have hc5 := cell_kept hcb (grownBy_putObj' _ D (.deferred none)) (fun r e => by cases e; exact ⟨_, hK, rfl⟩)
    refine ⟨.bool false, ?_, by rw [all_prefix hpre hp], hB.trans (belowK_b (w := w) (Nat.le_refl _) W D _ _ (by omega) hK rfl rfl)⟩
    simp [results, Try.f42, go_sem, hc5]
set_option maxRecDepth 100000 in
set_option maxHeartbeats 1000000 in
theorem stopsI (a : Option Addr) (l : List Tk3) (n cap : Nat) (hl : l.length = n) (hn : n ≤ 1048576) (w : World) (hr : RdY w a l) :
    Calls Try.prog 16 #[.slice a n cap] w fun e w' => e = .returned (.bool (l.all stopT)) ∧ Below w.heap.size w w' := by
  have HR : Hid (RdY w a l) := hr
  have HL : Hid (l.length = n) := hl
  clear hr hl
  go_enter Try.func16, Try.ntmps16
  go_wp2_with fail
  refine (callsIn_wide.1 (vals_in Fence.wide 7 trivial rfl a n cap _)).mono ?_
  rintro e w1 ⟨rfl, rfl⟩
  have hb1 : Below w.heap.size w (w.alloc (.cells #[.slice a n cap] 49)) := (Below.refl _ _).alloc (Nat.le_refl _) _
  have HB1 : Hid (Below w.heap.size w (w.alloc (.cells #[.slice a n cap] 49))) := hb1
  have HI : Hid (RdB (w.alloc (.cells #[.slice a n cap] 49)).heap.size (w.alloc (.cells #[.slice a n cap] 49)) a l) := (HR.out.on hb1).bound
  have HC : Hid ((w.alloc (.cells #[.slice a n cap] 49)).cell? ⟨w.heap.size, 0, none⟩ = some (.slice a n cap)) := (Boxed.new w _ _).cell
  clear hb1
  go_wp2_with fail
  refine (callsIn_wide.1 (isSoI 6 (by omega) a n cap l HL.out (by omega) w.heap.size _ (by simp) HC.out HI.out)).mono ?_
  rintro e w2 ⟨rfl, hb2⟩
  have HB2 : Hid (Below w.heap.size w w2) := bel_on (Nat.le_refl _) HB1.out hb2
  clear hb2 HB1 HI HC
  go_wp2
  go_ret
  exact ⟨rfl, HB2.out⟩
end Go.Proofs.Ytfdhcchakoldpaa
