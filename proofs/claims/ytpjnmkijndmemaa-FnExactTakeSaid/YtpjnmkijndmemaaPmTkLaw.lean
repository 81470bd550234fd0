/-
  Proved: for every pump and order the call of FnExactTake returns true: Take of the program answers as that of the specification, and the arguments read as before. No conditions.
-/
import Derived.Test.YtpjnmkijndmemaaRows
import Derived.Test.YtpjnmkijndmemaaPmT
import Derived.Test.YtpjnmkijndmemaaSpTk
import Derived.Test.YtpjnmkijndmemaaPmI
import Derived.Deep.CutBlock
import Derived.Deep.DeepCutAuto
import Derived.OpenShut
import Derived.ShutString
import Derived.ChangeOld
import Derived.Below
import Derived.OpenVars
import Derived.Deep.DeepHandedRow
namespace Go.Proofs.Ytpjnmkijndmemaa.fnExactTake
open Go.ChangeShapes Go.WideShapes Go.ChangeAt Go.RowKit Go.PlainAid
open Go.ChangeMaps (open_string shut_string)
set_option linter.unusedVariables false
set_option linter.unusedSimpArgs false

theorem own : ownKnob Try.prog.godebug = none := by kernel_rfl
theorem laidOut : laidOutB Try.prog = true := by kernel_rfl

set_option maxRecDepth 100000 in
set_option maxHeartbeats 20000000 in
theorem walk (p : Pm) (O1 O2 O3 O4 : Int) (w : World) (_ : (Lit.int .i64 O1).wf = true) (_ : (Lit.int .i64 O2).wf = true) (_ : (Lit.int .i64 O3).wf = true) (_ : (Lit.int .i64 O4).wf = true) :
    Calls Try.prog 10 #[p.V, .agg #[.int .i64 O1, .int .i64 O2, .int .i64 O3, .int .i64 O4]] w fun e w' => e = .returned (.bool true) ∧ Below w.heap.size w w' := by
  obtain ⟨q, hq⟩ : ∃ q, (p.take O1 O2 O3 O4).1 = q := ⟨_, rfl⟩
  obtain ⟨B, hB⟩ : ∃ B, (p.take O1 O2 O3 O4).2 = B := ⟨_, rfl⟩
  have KS0 : Hid (∀ w, Calls Try.prog 17 #[p.V, ordV O1 O2 O3 O4] w fun e w' => e = .returned (.tuple #[q.V, .bool B]) ∧ Below w.heap.size w w') := fun w => by rw [← hq, ← hB]; exact takeS p O1 O2 O3 O4 w
  have KI0 : Hid (∀ w, Calls Try.prog 16 #[p.V, ordV O1 O2 O3 O4] w fun e w' => e = .returned (.tuple #[q.V, .bool B]) ∧ Below w.heap.size w w') := fun w => by rw [← hq, ← hB]; exact takeI p O1 O2 O3 O4 w
  have KE0 : Hid (∀ w, Calls Try.prog 26 #[q.V, q.V] w fun e w' => e = .returned (.bool true) ∧ Below w.heap.size w w') := fun w => eqPmp q w
  clear hq hB
  obtain ⟨s, n, d, r, l, b, g, k⟩ := p
  obtain ⟨s', n', d', r', l', b', g', k'⟩ := q
  have KS : Hid (∀ w, Calls Try.prog 17 #[.agg #[.int .i64 s, .int .i64 n, .int .i64 d, .int .i64 r, .int .i64 l, .int .i64 b, .int .i64 g, .int .i64 k], .agg #[.int .i64 O1, .int .i64 O2, .int .i64 O3, .int .i64 O4]] w fun e w' => e = .returned (.tuple #[.agg #[.int .i64 s', .int .i64 n', .int .i64 d', .int .i64 r', .int .i64 l', .int .i64 b', .int .i64 g', .int .i64 k'], .bool B]) ∧ Below w.heap.size w w') := KS0
  have KI : Hid (∀ w, Calls Try.prog 16 #[.agg #[.int .i64 s, .int .i64 n, .int .i64 d, .int .i64 r, .int .i64 l, .int .i64 b, .int .i64 g, .int .i64 k], .agg #[.int .i64 O1, .int .i64 O2, .int .i64 O3, .int .i64 O4]] w fun e w' => e = .returned (.tuple #[.agg #[.int .i64 s', .int .i64 n', .int .i64 d', .int .i64 r', .int .i64 l', .int .i64 b', .int .i64 g', .int .i64 k'], .bool B]) ∧ Below w.heap.size w w') := KI0
  have KE : Hid (∀ w, Calls Try.prog 26 #[.agg #[.int .i64 s', .int .i64 n', .int .i64 d', .int .i64 r', .int .i64 l', .int .i64 b', .int .i64 g', .int .i64 k'], .agg #[.int .i64 s', .int .i64 n', .int .i64 d', .int .i64 r', .int .i64 l', .int .i64 b', .int .i64 g', .int .i64 k']] w fun e w' => e = .returned (.bool true) ∧ Below w.heap.size w w') := KE0
  have KP : Hid (∀ w, Calls Try.prog 28 #[.agg #[.int .i64 s, .int .i64 n, .int .i64 d, .int .i64 r, .int .i64 l, .int .i64 b, .int .i64 g, .int .i64 k]] w fun e w' => e = .returned (.agg #[.int .i64 s, .int .i64 n, .int .i64 d, .int .i64 r, .int .i64 l, .int .i64 b, .int .i64 g, .int .i64 k]) ∧ Below w.heap.size w w') := fun w => toPmp ⟨s, n, d, r, l, b, g, k⟩ w
  have KO : Hid (∀ w, Calls Try.prog 29 #[.agg #[.int .i64 O1, .int .i64 O2, .int .i64 O3, .int .i64 O4]] w fun e w' => e = .returned (.agg #[.int .i64 O1, .int .i64 O2, .int .i64 O3, .int .i64 O4]) ∧ Below w.heap.size w w') := fun w => toOrd O1 O2 O3 O4 w
  clear KS0 KI0 KE0
  show Calls Try.prog 10 #[.agg #[.int .i64 s, .int .i64 n, .int .i64 d, .int .i64 r, .int .i64 l, .int .i64 b, .int .i64 g, .int .i64 k], .agg #[.int .i64 O1, .int .i64 O2, .int .i64 O3, .int .i64 O4]] w fun e w' => e = .returned (.bool true) ∧ Below w.heap.size w w'
  have R1a : ((w.alloc (.cells #[.int .i64 s, .int .i64 n, .int .i64 d, .int .i64 r, .int .i64 l, .int .i64 b, .int .i64 g, .int .i64 k] 45)).alloc (.cells #[.int .i64 O1, .int .i64 O2, .int .i64 O3, .int .i64 O4] 48)).heap[w.heap.size]? = some (.cells #[.int .i64 s, .int .i64 n, .int .i64 d, .int .i64 r, .int .i64 l, .int .i64 b, .int .i64 g, .int .i64 k] 45) := row_on (heap_new w _) (alP _ _)
  have R1b : ((w.alloc (.cells #[.int .i64 s, .int .i64 n, .int .i64 d, .int .i64 r, .int .i64 l, .int .i64 b, .int .i64 g, .int .i64 k] 45)).alloc (.cells #[.int .i64 O1, .int .i64 O2, .int .i64 O3, .int .i64 O4] 48)).heap[w.heap.size + 1]? = some (.cells #[.int .i64 O1, .int .i64 O2, .int .i64 O3, .int .i64 O4] 48) := al_at (w.alloc (.cells #[.int .i64 s, .int .i64 n, .int .i64 d, .int .i64 r, .int .i64 l, .int .i64 b, .int .i64 g, .int .i64 k] 45)) _ (by simp)
  have R1S0 : (fun w' : World => w'.heap[w.heap.size]? = some (.cells #[.int .i64 s, .int .i64 n, .int .i64 d, .int .i64 r, .int .i64 l, .int .i64 b, .int .i64 g, .int .i64 k] 45) ∧ w'.heap[w.heap.size + 1]? = some (.cells #[.int .i64 O1, .int .i64 O2, .int .i64 O3, .int .i64 O4] 48)) ((w.alloc (.cells #[.int .i64 s, .int .i64 n, .int .i64 d, .int .i64 r, .int .i64 l, .int .i64 b, .int .i64 g, .int .i64 k] 45)).alloc (.cells #[.int .i64 O1, .int .i64 O2, .int .i64 O3, .int .i64 O4] 48)).drew := ⟨R1a, R1b⟩
  have R1c : Below w.heap.size w ((w.alloc (.cells #[.int .i64 s, .int .i64 n, .int .i64 d, .int .i64 r, .int .i64 l, .int .i64 b, .int .i64 g, .int .i64 k] 45)).alloc (.cells #[.int .i64 O1, .int .i64 O2, .int .i64 O3, .int .i64 O4] 48)) := bel_on (Nat.le_refl _) (alP _ _) (alP _ _)
  have R1P0 : ∀ t0 t1 t2 t3, PT (w.heap.size + 1 + 1) w.heap.size w (.agg #[.int .i64 s, .int .i64 n, .int .i64 d, .int .i64 r, .int .i64 l, .int .i64 b, .int .i64 g, .int .i64 k]) (.agg #[.int .i64 O1, .int .i64 O2, .int .i64 O3, .int .i64 O4]) (.tuple #[.agg #[.int .i64 s', .int .i64 n', .int .i64 d', .int .i64 r', .int .i64 l', .int .i64 b', .int .i64 g', .int .i64 k'], .bool B]) false 0 t0 t1 t2 t3 ((w.alloc (.cells #[.int .i64 s, .int .i64 n, .int .i64 d, .int .i64 r, .int .i64 l, .int .i64 b, .int .i64 g, .int .i64 k] 45)).alloc (.cells #[.int .i64 O1, .int .i64 O2, .int .i64 O3, .int .i64 O4] 48)).drew := fun _ _ _ _ => ⟨fun h => absurd h (by decide), fun h => absurd h (by decide), fun h => absurd h (by decide), fun h => absurd h (by decide), R1c.drew, le2 _, by simp⟩
  clear R1a R1b R1c
  go_enter Try.func10, Try.ntmps10
  go_upto_region 1 with fail
  go_cut [5, 6] (fun o1 o2 wc => ∃ bb : Nat, o1 = .pointer (some ⟨bb, 0, none⟩) ∧ o2 = .bool B ∧ Hid ((fun w' : World => w'.heap[w.heap.size]? = some (.cells #[.int .i64 s, .int .i64 n, .int .i64 d, .int .i64 r, .int .i64 l, .int .i64 b, .int .i64 g, .int .i64 k] 45) ∧ w'.heap[w.heap.size + 1]? = some (.cells #[.int .i64 O1, .int .i64 O2, .int .i64 O3, .int .i64 O4] 48)) wc) ∧ Hid (wc.heap[bb]? = some (.cells #[.int .i64 s', .int .i64 n', .int .i64 d', .int .i64 r', .int .i64 l', .int .i64 b', .int .i64 g', .int .i64 k'] 27)) ∧ Hid (Below w.heap.size w wc) ∧ w.heap.size + 1 + 1 ≤ bb)
  case first =>
    refine wp_region_held_drew (S := fun w' : World => w'.heap[w.heap.size]? = some (.cells #[.int .i64 s, .int .i64 n, .int .i64 d, .int .i64 r, .int .i64 l, .int .i64 b, .int .i64 g, .int .i64 k] 45) ∧ w'.heap[w.heap.size + 1]? = some (.cells #[.int .i64 O1, .int .i64 O2, .int .i64 O3, .int .i64 O4] 48)) (by kernel_rfl) R1S0 (fun hHeld => ?_)
    refine wpAnyH_take (i := 0) (v := ?_) rfl (by kernel_rfl) (by kernel_rfl) (by kernel_rfl) (fun _ _ _ h => h) (Or.inl ⟨by rfl, ?_⟩) (by assumption) ?_
    rotate_left
    · intro w_ hSw; (try dsimp only at hSw); have qa_ := box8_cells hSw.1; have qb_ := box4_cells hSw.2; go_simp <;> with_reducible rfl
    try simp only [Act.put, List.setIfInBounds_toArray, List.set_cons_zero, List.set_cons_succ, List.getElem_toArray, List.getElem_cons_zero, List.getElem_cons_succ]
    refine wpAnyH_take (i := 2) (v := ?_) rfl (by kernel_rfl) (by kernel_rfl) (by kernel_rfl) (fun _ _ _ h => h) (Or.inl ⟨by rfl, ?_⟩) (by assumption) ?_
    rotate_left
    · intro w_ hSw; (try dsimp only at hSw); have qa_ := box8_cells hSw.1; have qb_ := box4_cells hSw.2; go_simp <;> with_reducible rfl
    try simp only [Act.put, List.setIfInBounds_toArray, List.set_cons_zero, List.set_cons_succ, List.getElem_toArray, List.getElem_cons_zero, List.getElem_cons_succ]
    refine wpAnyH_named (fun a0 ha0 => ?_)
    have HA0 : Hid (a0 = _) := ha0
    clear ha0
    refine any_states (σ := Bool × Fin 4) (fun s => #[true, decide (0 < s.2), true, decide (1 < s.2), decide (2 < s.2), false, false, false, s.1, false, false]) (fun s => (if s.2 = 0 then [1] else []) ++ (if s.2 = 1 then [3] else []) ++ (if s.2 = 2 then [4] else []) ++ (if s.1 = true then [] else [8])) (fun s => 5 + (if s.1 then 0 else 1) + (3 - s.2.val)) (fun s => true) (fun s => decide (s.2 = 3)) (fun q a w_ => ∃ t0 t1 t2 t3 : Value, a = (((a0.put (some 11) t0).put (some 13) t1).put (some 14) t2).put (some 5) t3 ∧ PT (w.heap.size + 1 + 1) w.heap.size w (.agg #[.int .i64 s, .int .i64 n, .int .i64 d, .int .i64 r, .int .i64 l, .int .i64 b, .int .i64 g, .int .i64 k]) (.agg #[.int .i64 O1, .int .i64 O2, .int .i64 O3, .int .i64 O4]) (.tuple #[.agg #[.int .i64 s', .int .i64 n', .int .i64 d', .int .i64 r', .int .i64 l', .int .i64 b', .int .i64 g', .int .i64 k'], .bool B]) q.1 q.2 t0 t1 t2 t3 w_) ?_ ?_ ?_ 9 (false, 0) _ _ _ (by decide) (by decide) (by decide) (by assumption) ⟨a0.tmps.getD 11 undef, a0.tmps.getD 13 undef, a0.tmps.getD 14 undef, a0.tmps.getD 5 undef, (by simp only [put_self]), R1P0 _ _ _ _⟩
    · rintro ⟨x, c⟩
      dsimp only
      revert x c
      decide +kernel
    · rintro ⟨x, c⟩ i hok hfin hi
      dsimp only at hok hfin hi
      simp only [List.mem_append, mem_ifn, mem_ifc] at hi
      rcases hi with ((hi | hi) | hi) | hi
      · obtain ⟨rfl, rfl⟩ := hi
        refine ⟨(x, 1), rfl, rfl, ?_, ?_⟩
        · clear hfin hok; revert x; decide +kernel
        rintro a w_ hSw ⟨t0, t1, t2, t3, rfl, hn⟩
        dsimp only at hn hSw ⊢
        refine wpOp_step (i := 1) rfl (fun K hK => ?_)
        have HK : Shut _ := hK
        clear hK
        rw [HA0.out]
        simp only [Act.put, List.setIfInBounds_toArray, List.set_cons_zero, List.set_cons_succ]
        skip
        go_simp
        go_at_call 28
        refine Calls.mono (KP.out _) ?_
        rintro e w2_ ⟨rfl, hb2⟩
        have hn2 := hn.on hb2
        have hS2 := (⟨row_on hSw.1 hb2, row_on hSw.2 hb2⟩ : _ ∧ _)
        go_wp2_with fail
        exact HK.out _ _ ⟨hS2, _, t1, t2, t3, (by rw [HA0.out]; simp only [Act.put, List.setIfInBounds_toArray, List.set_cons_zero, List.set_cons_succ]), ⟨fun _ => rfl, fun h => absurd h (by decide), fun h => absurd h (by decide), hn2.x, hn2.bel, hn2.le, hn2.sz⟩⟩
      · obtain ⟨rfl, rfl⟩ := hi
        refine ⟨(x, 2), rfl, rfl, ?_, ?_⟩
        · clear hfin hok; revert x; decide +kernel
        rintro a w_ hSw ⟨t0, t1, t2, t3, rfl, hn⟩
        dsimp only at hn hSw ⊢
        refine wpOp_step (i := 3) rfl (fun K hK => ?_)
        have HK : Shut _ := hK
        clear hK
        rw [HA0.out]
        simp only [Act.put, List.setIfInBounds_toArray, List.set_cons_zero, List.set_cons_succ]
        obtain rfl := hn.c1 (by decide)
        go_simp
        go_at_call 29
        refine Calls.mono (KO.out _) ?_
        rintro e w2_ ⟨rfl, hb2⟩
        have hn2 := hn.on hb2
        have hS2 := (⟨row_on hSw.1 hb2, row_on hSw.2 hb2⟩ : _ ∧ _)
        go_wp2_with fail
        exact HK.out _ _ ⟨hS2, _, _, t2, t3, (by rw [HA0.out]; simp only [Act.put, List.setIfInBounds_toArray, List.set_cons_zero, List.set_cons_succ]), ⟨fun _ => rfl, fun _ => rfl, fun h => absurd h (by decide), hn2.x, hn2.bel, hn2.le, hn2.sz⟩⟩
      · obtain ⟨rfl, rfl⟩ := hi
        refine ⟨(x, 3), rfl, rfl, ?_, ?_⟩
        · clear hfin hok; revert x; decide +kernel
        rintro a w_ hSw ⟨t0, t1, t2, t3, rfl, hn⟩
        dsimp only at hn hSw ⊢
        refine wpOp_step (i := 4) rfl (fun K hK => ?_)
        have HK : Shut _ := hK
        clear hK
        rw [HA0.out]
        simp only [Act.put, List.setIfInBounds_toArray, List.set_cons_zero, List.set_cons_succ]
        obtain rfl := hn.c1 (by decide)
        obtain rfl := hn.c2 (by decide)
        go_simp
        go_at_call 17
        refine Calls.mono (KS.out _) ?_
        rintro e w2_ ⟨rfl, hb2⟩
        have hn2 := hn.on hb2
        have hS2 := (⟨row_on hSw.1 hb2, row_on hSw.2 hb2⟩ : _ ∧ _)
        go_wp2_with fail
        exact HK.out _ _ ⟨hS2, _, _, _, t3, (by rw [HA0.out]; simp only [Act.put, List.setIfInBounds_toArray, List.set_cons_zero, List.set_cons_succ]), ⟨fun _ => rfl, fun _ => rfl, fun _ => rfl, hn2.x, hn2.bel, hn2.le, hn2.sz⟩⟩
      · obtain ⟨hx, rfl⟩ := hi
        subst hx
        refine ⟨(true, c), rfl, rfl, ?_, ?_⟩
        · clear hfin hok; revert c; decide +kernel
        rintro a w_ hSw ⟨t0, t1, t2, t3, rfl, hn⟩
        dsimp only at hn hSw ⊢
        refine wpOp_step (i := 8) rfl (fun K hK => ?_)
        have HK : Shut _ := hK
        clear hK
        rw [HA0.out]
        simp only [Act.put, List.setIfInBounds_toArray, List.set_cons_zero, List.set_cons_succ]
        go_simp
        have hn2 := hn.new
        have hS2 := (⟨row_on hSw.1 (alP w_ (.cells #[.int .i64 0, .int .i64 0, .int .i64 0, .int .i64 0, .int .i64 0, .int .i64 0, .int .i64 0, .int .i64 0] 27)), row_on hSw.2 (alP w_ (.cells #[.int .i64 0, .int .i64 0, .int .i64 0, .int .i64 0, .int .i64 0, .int .i64 0, .int .i64 0, .int .i64 0] 27))⟩ : _ ∧ _)
        exact HK.out _ _ ⟨hS2, t0, t1, t2, _, (by rw [HA0.out]; simp only [Act.put, List.setIfInBounds_toArray, List.set_cons_zero, List.set_cons_succ]), hn2⟩
    · rintro ⟨x, c⟩ a w_ f2 hok hfin hf hSw ⟨t0, t1, t2, t3, rfl, hn⟩
      dsimp only at hok hfin hf hn hSw ⊢
      obtain rfl : c = 3 := by simpa using hfin
      obtain rfl := hn.c1 (by decide)
      obtain rfl := hn.c2 (by decide)
      obtain rfl := hn.c3 (by decide)
      rw [HA0.out]
      simp only [Act.put, List.setIfInBounds_toArray, List.set_cons_zero, List.set_cons_succ]
      cases x
      · obtain ⟨f3, rfl⟩ : ∃ f3, f2 = f3 + 6 := ⟨f2 - 6, by have h3 : 6 ≤ f2 := (by first | exact hf | simpa using hf); omega⟩
        refine wpAnyH_take (i := 5) (v := ?_) rfl (by kernel_rfl) (by kernel_rfl) (by kernel_rfl) (fun _ _ _ h => h) (Or.inl ⟨by rfl, ?_⟩) (by assumption) ?_
        rotate_left
        · intro w2_ hSw2; (try dsimp only at hSw2); go_simp <;> with_reducible rfl
        try simp only [Act.put, List.setIfInBounds_toArray, List.set_cons_zero, List.set_cons_succ, List.getElem_toArray, List.getElem_cons_zero, List.getElem_cons_succ]
        refine wpAnyH_take (i := 6) (v := ?_) rfl (by kernel_rfl) (by kernel_rfl) (by kernel_rfl) (fun _ _ _ h => h) (Or.inl ⟨by rfl, ?_⟩) (by assumption) ?_
        rotate_left
        · intro w2_ hSw2; (try dsimp only at hSw2); go_simp <;> with_reducible rfl
        try simp only [Act.put, List.setIfInBounds_toArray, List.set_cons_zero, List.set_cons_succ, List.getElem_toArray, List.getElem_cons_zero, List.getElem_cons_succ]
        refine wpAnyH_take (i := 7) (v := ?_) rfl (by kernel_rfl) (by kernel_rfl) (by kernel_rfl) (fun _ _ _ h => h) (Or.inl ⟨by rfl, ?_⟩) (by assumption) ?_
        rotate_left
        · intro w2_ hSw2; (try dsimp only at hSw2); go_simp <;> with_reducible rfl
        try simp only [Act.put, List.setIfInBounds_toArray, List.set_cons_zero, List.set_cons_succ, List.getElem_toArray, List.getElem_cons_zero, List.getElem_cons_succ]
        refine wpAnyH_ready (rs := [8]) (by kernel_rfl) (by simp) ?_
        refine AllReadyH.cons rfl (fun K hK => ?_) AllReadyH.nil
        have hn3 := hn.new
        have hS3 := (⟨row_on hSw.1 (alP w_ (.cells #[.int .i64 0, .int .i64 0, .int .i64 0, .int .i64 0, .int .i64 0, .int .i64 0, .int .i64 0, .int .i64 0] 27)), row_on hSw.2 (alP w_ (.cells #[.int .i64 0, .int .i64 0, .int .i64 0, .int .i64 0, .int .i64 0, .int .i64 0, .int .i64 0, .int .i64 0] 27))⟩ : _ ∧ _)
        go_simp
        refine hK.out _ _ hS3 (fun hHeld2 => ?_)
        clear hK K
        simp only [Act.put, List.setIfInBounds_toArray, List.set_cons_zero, List.set_cons_succ]
        obtain ⟨bq, e1, hrow, hge⟩ := hn3.x rfl
        obtain rfl : w_.heap.size = bq := by simpa using e1
        obtain ⟨W_, hW_⟩ : ∃ W_, w_.alloc (.cells #[.int .i64 0, .int .i64 0, .int .i64 0, .int .i64 0, .int .i64 0, .int .i64 0, .int .i64 0, .int .i64 0] 27) = W_ := ⟨_, rfl⟩
        obtain ⟨bq, hbq⟩ : ∃ bq, w_.heap.size = bq := ⟨_, rfl⟩
        rw [hbq] at hrow hge e1 hn3
        rw [hW_] at hrow hn3 hS3
        rw [hbq, hW_]
        clear hn hSw hHeld2 hW_ hbq e1
        have hbl : w.heap.size ≤ bq := Nat.le_trans hn3.le hge
        have kk := box8_cells hrow
        refine wpAnyH_ready (rs := [9]) (by kernel_rfl) (by simp) ?_
        refine AllReadyH.cons rfl (fun K hK => ?_) AllReadyH.nil
        go_simp
        have HPn : Hid (((((((((W_.setCell ⟨bq, 0, none⟩ (.int .i64 s')).setCell ⟨bq, 1, none⟩ (.int .i64 n')).setCell ⟨bq, 2, none⟩ (.int .i64 d')).setCell ⟨bq, 3, none⟩ (.int .i64 r')).setCell ⟨bq, 4, none⟩ (.int .i64 l')).setCell ⟨bq, 5, none⟩ (.int .i64 b')).setCell ⟨bq, 6, none⟩ (.int .i64 g')).setCell ⟨bq, 7, none⟩ (.int .i64 k')).heap[bq]? = some (.cells #[.int .i64 s', .int .i64 n', .int .i64 d', .int .i64 r', .int .i64 l', .int .i64 b', .int .i64 g', .int .i64 k'] 27)) := set8_row (s') (n') (d') (r') (l') (b') (g') (k') hrow
        have HBn : Hid (Below w.heap.size w ((((((((W_.setCell ⟨bq, 0, none⟩ (.int .i64 s')).setCell ⟨bq, 1, none⟩ (.int .i64 n')).setCell ⟨bq, 2, none⟩ (.int .i64 d')).setCell ⟨bq, 3, none⟩ (.int .i64 r')).setCell ⟨bq, 4, none⟩ (.int .i64 l')).setCell ⟨bq, 5, none⟩ (.int .i64 b')).setCell ⟨bq, 6, none⟩ (.int .i64 g')).setCell ⟨bq, 7, none⟩ (.int .i64 k'))) := set8_bel (s') (n') (d') (r') (l') (b') (g') (k') hn3.bel hbl
        have HSn : Hid ((fun w' : World => w'.heap[w.heap.size]? = some (.cells #[.int .i64 s, .int .i64 n, .int .i64 d, .int .i64 r, .int .i64 l, .int .i64 b, .int .i64 g, .int .i64 k] 45) ∧ w'.heap[w.heap.size + 1]? = some (.cells #[.int .i64 O1, .int .i64 O2, .int .i64 O3, .int .i64 O4] 48)) ((((((((W_.setCell ⟨bq, 0, none⟩ (.int .i64 s')).setCell ⟨bq, 1, none⟩ (.int .i64 n')).setCell ⟨bq, 2, none⟩ (.int .i64 d')).setCell ⟨bq, 3, none⟩ (.int .i64 r')).setCell ⟨bq, 4, none⟩ (.int .i64 l')).setCell ⟨bq, 5, none⟩ (.int .i64 b')).setCell ⟨bq, 6, none⟩ (.int .i64 g')).setCell ⟨bq, 7, none⟩ (.int .i64 k'))) := ⟨(set8_far (s') (n') (d') (r') (l') (b') (g') (k') hS3.1 (by omega)), (set8_far (s') (n') (d') (r') (l') (b') (g') (k') hS3.2 (by omega))⟩
        refine hK.out _ _ HSn.out (fun hHeld3 => ?_)
        clear hK K
        simp only [Act.put, List.setIfInBounds_toArray, List.set_cons_zero, List.set_cons_succ]
        refine wpAnyH_take (i := 10) (v := ?_) rfl (by kernel_rfl) (by kernel_rfl) (by kernel_rfl) (fun _ _ _ h => h) (Or.inl ⟨by rfl, ?_⟩) (by assumption) ?_
        rotate_left
        · intro w2_ hSw2; (try dsimp only at hSw2); go_simp <;> with_reducible rfl
        try simp only [Act.put, List.setIfInBounds_toArray, List.set_cons_zero, List.set_cons_succ, List.getElem_toArray, List.getElem_cons_zero, List.getElem_cons_succ]
        clear hHeld3
        refine wpAnyH_done (by kernel_rfl) ?_ _
        generalize ((((((((W_.setCell ⟨bq, 0, none⟩ (.int .i64 s')).setCell ⟨bq, 1, none⟩ (.int .i64 n')).setCell ⟨bq, 2, none⟩ (.int .i64 d')).setCell ⟨bq, 3, none⟩ (.int .i64 r')).setCell ⟨bq, 4, none⟩ (.int .i64 l')).setCell ⟨bq, 5, none⟩ (.int .i64 b')).setCell ⟨bq, 6, none⟩ (.int .i64 g')).setCell ⟨bq, 7, none⟩ (.int .i64 k')) = w9 at *
        (try go_wp2_with fail)
        go_meet
        exact ⟨bq, rfl, rfl, HSn, HPn, HBn, hge⟩
      · obtain ⟨f3, rfl⟩ : ∃ f3, f2 = f3 + 5 := ⟨f2 - 5, by have h3 : 5 ≤ f2 := (by first | exact hf | simpa using hf); omega⟩
        obtain ⟨bq, rfl, hrow, hge⟩ := hn.x rfl
        refine wpAnyH_take (i := 5) (v := ?_) rfl (by kernel_rfl) (by kernel_rfl) (by kernel_rfl) (fun _ _ _ h => h) (Or.inl ⟨by rfl, ?_⟩) (by assumption) ?_
        rotate_left
        · intro w2_ hSw2; (try dsimp only at hSw2); go_simp <;> with_reducible rfl
        try simp only [Act.put, List.setIfInBounds_toArray, List.set_cons_zero, List.set_cons_succ, List.getElem_toArray, List.getElem_cons_zero, List.getElem_cons_succ]
        refine wpAnyH_take (i := 6) (v := ?_) rfl (by kernel_rfl) (by kernel_rfl) (by kernel_rfl) (fun _ _ _ h => h) (Or.inl ⟨by rfl, ?_⟩) (by assumption) ?_
        rotate_left
        · intro w2_ hSw2; (try dsimp only at hSw2); go_simp <;> with_reducible rfl
        try simp only [Act.put, List.setIfInBounds_toArray, List.set_cons_zero, List.set_cons_succ, List.getElem_toArray, List.getElem_cons_zero, List.getElem_cons_succ]
        refine wpAnyH_take (i := 7) (v := ?_) rfl (by kernel_rfl) (by kernel_rfl) (by kernel_rfl) (fun _ _ _ h => h) (Or.inl ⟨by rfl, ?_⟩) (by assumption) ?_
        rotate_left
        · intro w2_ hSw2; (try dsimp only at hSw2); go_simp <;> with_reducible rfl
        try simp only [Act.put, List.setIfInBounds_toArray, List.set_cons_zero, List.set_cons_succ, List.getElem_toArray, List.getElem_cons_zero, List.getElem_cons_succ]
        have hbl : w.heap.size ≤ bq := Nat.le_trans hn.le hge
        have kk := box8_cells hrow
        refine wpAnyH_ready (rs := [9]) (by kernel_rfl) (by simp) ?_
        refine AllReadyH.cons rfl (fun K hK => ?_) AllReadyH.nil
        go_simp
        have HPn : Hid (((((((((w_.setCell ⟨bq, 0, none⟩ (.int .i64 s')).setCell ⟨bq, 1, none⟩ (.int .i64 n')).setCell ⟨bq, 2, none⟩ (.int .i64 d')).setCell ⟨bq, 3, none⟩ (.int .i64 r')).setCell ⟨bq, 4, none⟩ (.int .i64 l')).setCell ⟨bq, 5, none⟩ (.int .i64 b')).setCell ⟨bq, 6, none⟩ (.int .i64 g')).setCell ⟨bq, 7, none⟩ (.int .i64 k')).heap[bq]? = some (.cells #[.int .i64 s', .int .i64 n', .int .i64 d', .int .i64 r', .int .i64 l', .int .i64 b', .int .i64 g', .int .i64 k'] 27)) := set8_row (s') (n') (d') (r') (l') (b') (g') (k') hrow
        have HBn : Hid (Below w.heap.size w ((((((((w_.setCell ⟨bq, 0, none⟩ (.int .i64 s')).setCell ⟨bq, 1, none⟩ (.int .i64 n')).setCell ⟨bq, 2, none⟩ (.int .i64 d')).setCell ⟨bq, 3, none⟩ (.int .i64 r')).setCell ⟨bq, 4, none⟩ (.int .i64 l')).setCell ⟨bq, 5, none⟩ (.int .i64 b')).setCell ⟨bq, 6, none⟩ (.int .i64 g')).setCell ⟨bq, 7, none⟩ (.int .i64 k'))) := set8_bel (s') (n') (d') (r') (l') (b') (g') (k') hn.bel hbl
        have HSn : Hid ((fun w' : World => w'.heap[w.heap.size]? = some (.cells #[.int .i64 s, .int .i64 n, .int .i64 d, .int .i64 r, .int .i64 l, .int .i64 b, .int .i64 g, .int .i64 k] 45) ∧ w'.heap[w.heap.size + 1]? = some (.cells #[.int .i64 O1, .int .i64 O2, .int .i64 O3, .int .i64 O4] 48)) ((((((((w_.setCell ⟨bq, 0, none⟩ (.int .i64 s')).setCell ⟨bq, 1, none⟩ (.int .i64 n')).setCell ⟨bq, 2, none⟩ (.int .i64 d')).setCell ⟨bq, 3, none⟩ (.int .i64 r')).setCell ⟨bq, 4, none⟩ (.int .i64 l')).setCell ⟨bq, 5, none⟩ (.int .i64 b')).setCell ⟨bq, 6, none⟩ (.int .i64 g')).setCell ⟨bq, 7, none⟩ (.int .i64 k'))) := ⟨(set8_far (s') (n') (d') (r') (l') (b') (g') (k') hSw.1 (by omega)), (set8_far (s') (n') (d') (r') (l') (b') (g') (k') hSw.2 (by omega))⟩
        refine hK.out _ _ HSn.out (fun hHeld3 => ?_)
        clear hK K
        simp only [Act.put, List.setIfInBounds_toArray, List.set_cons_zero, List.set_cons_succ]
        refine wpAnyH_take (i := 10) (v := ?_) rfl (by kernel_rfl) (by kernel_rfl) (by kernel_rfl) (fun _ _ _ h => h) (Or.inl ⟨by rfl, ?_⟩) (by assumption) ?_
        rotate_left
        · intro w2_ hSw2; (try dsimp only at hSw2); go_simp <;> with_reducible rfl
        try simp only [Act.put, List.setIfInBounds_toArray, List.set_cons_zero, List.set_cons_succ, List.getElem_toArray, List.getElem_cons_zero, List.getElem_cons_succ]
        clear hHeld3
        refine wpAnyH_done (by kernel_rfl) ?_ _
        generalize ((((((((w_.setCell ⟨bq, 0, none⟩ (.int .i64 s')).setCell ⟨bq, 1, none⟩ (.int .i64 n')).setCell ⟨bq, 2, none⟩ (.int .i64 d')).setCell ⟨bq, 3, none⟩ (.int .i64 r')).setCell ⟨bq, 4, none⟩ (.int .i64 l')).setCell ⟨bq, 5, none⟩ (.int .i64 b')).setCell ⟨bq, 6, none⟩ (.int .i64 g')).setCell ⟨bq, 7, none⟩ (.int .i64 k')) = w9 at *
        (try go_wp2_with fail)
        go_meet
        exact ⟨bq, rfl, rfl, HSn, HPn, HBn, hge⟩
  case rest =>
    obtain ⟨A, rfl, rfl, HS1, HA1, HB1, hA1⟩ := hcut
    have hAl := row_lt HA1.out
    rename World => wA
    go_upto_region 2 with fail
    have R2S0 : (fun w' : World => w'.heap[w.heap.size]? = some (.cells #[.int .i64 s, .int .i64 n, .int .i64 d, .int .i64 r, .int .i64 l, .int .i64 b, .int .i64 g, .int .i64 k] 45) ∧ w'.heap[w.heap.size + 1]? = some (.cells #[.int .i64 O1, .int .i64 O2, .int .i64 O3, .int .i64 O4] 48) ∧ w'.heap[A]? = some (.cells #[.int .i64 s', .int .i64 n', .int .i64 d', .int .i64 r', .int .i64 l', .int .i64 b', .int .i64 g', .int .i64 k'] 27)) wA.drew := ⟨HS1.out.1, HS1.out.2, HA1.out⟩
    have R2P0 : ∀ t0 t1 t2 t3, PT wA.heap.size w.heap.size w (.agg #[.int .i64 s, .int .i64 n, .int .i64 d, .int .i64 r, .int .i64 l, .int .i64 b, .int .i64 g, .int .i64 k]) (.agg #[.int .i64 O1, .int .i64 O2, .int .i64 O3, .int .i64 O4]) (.tuple #[.agg #[.int .i64 s', .int .i64 n', .int .i64 d', .int .i64 r', .int .i64 l', .int .i64 b', .int .i64 g', .int .i64 k'], .bool B]) false 0 t0 t1 t2 t3 wA.drew := fun _ _ _ _ => ⟨fun h => absurd h (by decide), fun h => absurd h (by decide), fun h => absurd h (by decide), fun h => absurd h (by decide), HB1.out.drew, HB1.out.size, Nat.le_refl _⟩
    clear R1S0 R1P0 HS1 HA1 HB1
    go_cut [7, 8] (fun o1 o2 wc => ∃ bb : Nat, o1 = .pointer (some ⟨bb, 0, none⟩) ∧ o2 = .bool B ∧ Hid ((fun w' : World => w'.heap[w.heap.size]? = some (.cells #[.int .i64 s, .int .i64 n, .int .i64 d, .int .i64 r, .int .i64 l, .int .i64 b, .int .i64 g, .int .i64 k] 45) ∧ w'.heap[w.heap.size + 1]? = some (.cells #[.int .i64 O1, .int .i64 O2, .int .i64 O3, .int .i64 O4] 48) ∧ w'.heap[A]? = some (.cells #[.int .i64 s', .int .i64 n', .int .i64 d', .int .i64 r', .int .i64 l', .int .i64 b', .int .i64 g', .int .i64 k'] 27)) wc) ∧ Hid (wc.heap[bb]? = some (.cells #[.int .i64 s', .int .i64 n', .int .i64 d', .int .i64 r', .int .i64 l', .int .i64 b', .int .i64 g', .int .i64 k'] 27)) ∧ Hid (Below w.heap.size w wc))
    case first =>
      refine wp_region_held_drew (S := fun w' : World => w'.heap[w.heap.size]? = some (.cells #[.int .i64 s, .int .i64 n, .int .i64 d, .int .i64 r, .int .i64 l, .int .i64 b, .int .i64 g, .int .i64 k] 45) ∧ w'.heap[w.heap.size + 1]? = some (.cells #[.int .i64 O1, .int .i64 O2, .int .i64 O3, .int .i64 O4] 48) ∧ w'.heap[A]? = some (.cells #[.int .i64 s', .int .i64 n', .int .i64 d', .int .i64 r', .int .i64 l', .int .i64 b', .int .i64 g', .int .i64 k'] 27)) (by kernel_rfl) R2S0 (fun hHeld => ?_)
      refine wpAnyH_take (i := 0) (v := ?_) rfl (by kernel_rfl) (by kernel_rfl) (by kernel_rfl) (fun _ _ _ h => h) (Or.inl ⟨by rfl, ?_⟩) (by assumption) ?_
      rotate_left
      · intro w_ hSw; (try dsimp only at hSw); have qa_ := box8_cells hSw.1; have qb_ := box4_cells hSw.2.1; go_simp <;> with_reducible rfl
      try simp only [Act.put, List.setIfInBounds_toArray, List.set_cons_zero, List.set_cons_succ, List.getElem_toArray, List.getElem_cons_zero, List.getElem_cons_succ]
      refine wpAnyH_take (i := 2) (v := ?_) rfl (by kernel_rfl) (by kernel_rfl) (by kernel_rfl) (fun _ _ _ h => h) (Or.inl ⟨by rfl, ?_⟩) (by assumption) ?_
      rotate_left
      · intro w_ hSw; (try dsimp only at hSw); have qa_ := box8_cells hSw.1; have qb_ := box4_cells hSw.2.1; go_simp <;> with_reducible rfl
      try simp only [Act.put, List.setIfInBounds_toArray, List.set_cons_zero, List.set_cons_succ, List.getElem_toArray, List.getElem_cons_zero, List.getElem_cons_succ]
      refine wpAnyH_named (fun a0 ha0 => ?_)
      have HA0 : Hid (a0 = _) := ha0
      clear ha0
      refine any_states (σ := Bool × Fin 4) (fun s => #[true, decide (0 < s.2), true, decide (1 < s.2), decide (2 < s.2), false, false, false, s.1, false, false]) (fun s => (if s.2 = 0 then [1] else []) ++ (if s.2 = 1 then [3] else []) ++ (if s.2 = 2 then [4] else []) ++ (if s.1 = true then [] else [8])) (fun s => 5 + (if s.1 then 0 else 1) + (3 - s.2.val)) (fun s => true) (fun s => decide (s.2 = 3)) (fun q a w_ => ∃ t0 t1 t2 t3 : Value, a = (((a0.put (some 19) t0).put (some 21) t1).put (some 22) t2).put (some 7) t3 ∧ PT (wA.heap.size) w.heap.size w (.agg #[.int .i64 s, .int .i64 n, .int .i64 d, .int .i64 r, .int .i64 l, .int .i64 b, .int .i64 g, .int .i64 k]) (.agg #[.int .i64 O1, .int .i64 O2, .int .i64 O3, .int .i64 O4]) (.tuple #[.agg #[.int .i64 s', .int .i64 n', .int .i64 d', .int .i64 r', .int .i64 l', .int .i64 b', .int .i64 g', .int .i64 k'], .bool B]) q.1 q.2 t0 t1 t2 t3 w_) ?_ ?_ ?_ 9 (false, 0) _ _ _ (by decide) (by decide) (by decide) (by assumption) ⟨a0.tmps.getD 19 undef, a0.tmps.getD 21 undef, a0.tmps.getD 22 undef, a0.tmps.getD 7 undef, (by simp only [put_self]), R2P0 _ _ _ _⟩
      · rintro ⟨x, c⟩
        dsimp only
        revert x c
        decide +kernel
      · rintro ⟨x, c⟩ i hok hfin hi
        dsimp only at hok hfin hi
        simp only [List.mem_append, mem_ifn, mem_ifc] at hi
        rcases hi with ((hi | hi) | hi) | hi
        · obtain ⟨rfl, rfl⟩ := hi
          refine ⟨(x, 1), rfl, rfl, ?_, ?_⟩
          · clear hfin hok; revert x; decide +kernel
          rintro a w_ hSw ⟨t0, t1, t2, t3, rfl, hn⟩
          dsimp only at hn hSw ⊢
          refine wpOp_step (i := 1) rfl (fun K hK => ?_)
          have HK : Shut _ := hK
          clear hK
          rw [HA0.out]
          simp only [Act.put, List.setIfInBounds_toArray, List.set_cons_zero, List.set_cons_succ]
          skip
          go_simp
          go_at_call 28
          refine Calls.mono (KP.out _) ?_
          rintro e w2_ ⟨rfl, hb2⟩
          have hn2 := hn.on hb2
          have hS2 := (⟨row_on hSw.1 hb2, row_on hSw.2.1 hb2, row_on hSw.2.2 hb2⟩ : _ ∧ _ ∧ _)
          go_wp2_with fail
          exact HK.out _ _ ⟨hS2, _, t1, t2, t3, (by rw [HA0.out]; simp only [Act.put, List.setIfInBounds_toArray, List.set_cons_zero, List.set_cons_succ]), ⟨fun _ => rfl, fun h => absurd h (by decide), fun h => absurd h (by decide), hn2.x, hn2.bel, hn2.le, hn2.sz⟩⟩
        · obtain ⟨rfl, rfl⟩ := hi
          refine ⟨(x, 2), rfl, rfl, ?_, ?_⟩
          · clear hfin hok; revert x; decide +kernel
          rintro a w_ hSw ⟨t0, t1, t2, t3, rfl, hn⟩
          dsimp only at hn hSw ⊢
          refine wpOp_step (i := 3) rfl (fun K hK => ?_)
          have HK : Shut _ := hK
          clear hK
          rw [HA0.out]
          simp only [Act.put, List.setIfInBounds_toArray, List.set_cons_zero, List.set_cons_succ]
          obtain rfl := hn.c1 (by decide)
          go_simp
          go_at_call 29
          refine Calls.mono (KO.out _) ?_
          rintro e w2_ ⟨rfl, hb2⟩
          have hn2 := hn.on hb2
          have hS2 := (⟨row_on hSw.1 hb2, row_on hSw.2.1 hb2, row_on hSw.2.2 hb2⟩ : _ ∧ _ ∧ _)
          go_wp2_with fail
          exact HK.out _ _ ⟨hS2, _, _, t2, t3, (by rw [HA0.out]; simp only [Act.put, List.setIfInBounds_toArray, List.set_cons_zero, List.set_cons_succ]), ⟨fun _ => rfl, fun _ => rfl, fun h => absurd h (by decide), hn2.x, hn2.bel, hn2.le, hn2.sz⟩⟩
        · obtain ⟨rfl, rfl⟩ := hi
          refine ⟨(x, 3), rfl, rfl, ?_, ?_⟩
          · clear hfin hok; revert x; decide +kernel
          rintro a w_ hSw ⟨t0, t1, t2, t3, rfl, hn⟩
          dsimp only at hn hSw ⊢
          refine wpOp_step (i := 4) rfl (fun K hK => ?_)
          have HK : Shut _ := hK
          clear hK
          rw [HA0.out]
          simp only [Act.put, List.setIfInBounds_toArray, List.set_cons_zero, List.set_cons_succ]
          obtain rfl := hn.c1 (by decide)
          obtain rfl := hn.c2 (by decide)
          go_simp
          go_at_call 16
          refine Calls.mono (KI.out _) ?_
          rintro e w2_ ⟨rfl, hb2⟩
          have hn2 := hn.on hb2
          have hS2 := (⟨row_on hSw.1 hb2, row_on hSw.2.1 hb2, row_on hSw.2.2 hb2⟩ : _ ∧ _ ∧ _)
          go_wp2_with fail
          exact HK.out _ _ ⟨hS2, _, _, _, t3, (by rw [HA0.out]; simp only [Act.put, List.setIfInBounds_toArray, List.set_cons_zero, List.set_cons_succ]), ⟨fun _ => rfl, fun _ => rfl, fun _ => rfl, hn2.x, hn2.bel, hn2.le, hn2.sz⟩⟩
        · obtain ⟨hx, rfl⟩ := hi
          subst hx
          refine ⟨(true, c), rfl, rfl, ?_, ?_⟩
          · clear hfin hok; revert c; decide +kernel
          rintro a w_ hSw ⟨t0, t1, t2, t3, rfl, hn⟩
          dsimp only at hn hSw ⊢
          refine wpOp_step (i := 8) rfl (fun K hK => ?_)
          have HK : Shut _ := hK
          clear hK
          rw [HA0.out]
          simp only [Act.put, List.setIfInBounds_toArray, List.set_cons_zero, List.set_cons_succ]
          go_simp
          have hn2 := hn.new
          have hS2 := (⟨row_on hSw.1 (alP w_ (.cells #[.int .i64 0, .int .i64 0, .int .i64 0, .int .i64 0, .int .i64 0, .int .i64 0, .int .i64 0, .int .i64 0] 27)), row_on hSw.2.1 (alP w_ (.cells #[.int .i64 0, .int .i64 0, .int .i64 0, .int .i64 0, .int .i64 0, .int .i64 0, .int .i64 0, .int .i64 0] 27)), row_on hSw.2.2 (alP w_ (.cells #[.int .i64 0, .int .i64 0, .int .i64 0, .int .i64 0, .int .i64 0, .int .i64 0, .int .i64 0, .int .i64 0] 27))⟩ : _ ∧ _ ∧ _)
          exact HK.out _ _ ⟨hS2, t0, t1, t2, _, (by rw [HA0.out]; simp only [Act.put, List.setIfInBounds_toArray, List.set_cons_zero, List.set_cons_succ]), hn2⟩
      · rintro ⟨x, c⟩ a w_ f2 hok hfin hf hSw ⟨t0, t1, t2, t3, rfl, hn⟩
        dsimp only at hok hfin hf hn hSw ⊢
        obtain rfl : c = 3 := by simpa using hfin
        obtain rfl := hn.c1 (by decide)
        obtain rfl := hn.c2 (by decide)
        obtain rfl := hn.c3 (by decide)
        rw [HA0.out]
        simp only [Act.put, List.setIfInBounds_toArray, List.set_cons_zero, List.set_cons_succ]
        cases x
        · obtain ⟨f3, rfl⟩ : ∃ f3, f2 = f3 + 6 := ⟨f2 - 6, by have h3 : 6 ≤ f2 := (by first | exact hf | simpa using hf); omega⟩
          refine wpAnyH_take (i := 5) (v := ?_) rfl (by kernel_rfl) (by kernel_rfl) (by kernel_rfl) (fun _ _ _ h => h) (Or.inl ⟨by rfl, ?_⟩) (by assumption) ?_
          rotate_left
          · intro w2_ hSw2; (try dsimp only at hSw2); go_simp <;> with_reducible rfl
          try simp only [Act.put, List.setIfInBounds_toArray, List.set_cons_zero, List.set_cons_succ, List.getElem_toArray, List.getElem_cons_zero, List.getElem_cons_succ]
          refine wpAnyH_take (i := 6) (v := ?_) rfl (by kernel_rfl) (by kernel_rfl) (by kernel_rfl) (fun _ _ _ h => h) (Or.inl ⟨by rfl, ?_⟩) (by assumption) ?_
          rotate_left
          · intro w2_ hSw2; (try dsimp only at hSw2); go_simp <;> with_reducible rfl
          try simp only [Act.put, List.setIfInBounds_toArray, List.set_cons_zero, List.set_cons_succ, List.getElem_toArray, List.getElem_cons_zero, List.getElem_cons_succ]
          refine wpAnyH_take (i := 7) (v := ?_) rfl (by kernel_rfl) (by kernel_rfl) (by kernel_rfl) (fun _ _ _ h => h) (Or.inl ⟨by rfl, ?_⟩) (by assumption) ?_
          rotate_left
          · intro w2_ hSw2; (try dsimp only at hSw2); go_simp <;> with_reducible rfl
          try simp only [Act.put, List.setIfInBounds_toArray, List.set_cons_zero, List.set_cons_succ, List.getElem_toArray, List.getElem_cons_zero, List.getElem_cons_succ]
          refine wpAnyH_ready (rs := [8]) (by kernel_rfl) (by simp) ?_
          refine AllReadyH.cons rfl (fun K hK => ?_) AllReadyH.nil
          have hn3 := hn.new
          have hS3 := (⟨row_on hSw.1 (alP w_ (.cells #[.int .i64 0, .int .i64 0, .int .i64 0, .int .i64 0, .int .i64 0, .int .i64 0, .int .i64 0, .int .i64 0] 27)), row_on hSw.2.1 (alP w_ (.cells #[.int .i64 0, .int .i64 0, .int .i64 0, .int .i64 0, .int .i64 0, .int .i64 0, .int .i64 0, .int .i64 0] 27)), row_on hSw.2.2 (alP w_ (.cells #[.int .i64 0, .int .i64 0, .int .i64 0, .int .i64 0, .int .i64 0, .int .i64 0, .int .i64 0, .int .i64 0] 27))⟩ : _ ∧ _ ∧ _)
          go_simp
          refine hK.out _ _ hS3 (fun hHeld2 => ?_)
          clear hK K
          simp only [Act.put, List.setIfInBounds_toArray, List.set_cons_zero, List.set_cons_succ]
          obtain ⟨bq, e1, hrow, hge⟩ := hn3.x rfl
          obtain rfl : w_.heap.size = bq := by simpa using e1
          obtain ⟨W_, hW_⟩ : ∃ W_, w_.alloc (.cells #[.int .i64 0, .int .i64 0, .int .i64 0, .int .i64 0, .int .i64 0, .int .i64 0, .int .i64 0, .int .i64 0] 27) = W_ := ⟨_, rfl⟩
          obtain ⟨bq, hbq⟩ : ∃ bq, w_.heap.size = bq := ⟨_, rfl⟩
          rw [hbq] at hrow hge e1 hn3
          rw [hW_] at hrow hn3 hS3
          rw [hbq, hW_]
          clear hn hSw hHeld2 hW_ hbq e1
          have hbl : w.heap.size ≤ bq := Nat.le_trans hn3.le hge
          have kk := box8_cells hrow
          refine wpAnyH_ready (rs := [9]) (by kernel_rfl) (by simp) ?_
          refine AllReadyH.cons rfl (fun K hK => ?_) AllReadyH.nil
          go_simp
          have HPn : Hid (((((((((W_.setCell ⟨bq, 0, none⟩ (.int .i64 s')).setCell ⟨bq, 1, none⟩ (.int .i64 n')).setCell ⟨bq, 2, none⟩ (.int .i64 d')).setCell ⟨bq, 3, none⟩ (.int .i64 r')).setCell ⟨bq, 4, none⟩ (.int .i64 l')).setCell ⟨bq, 5, none⟩ (.int .i64 b')).setCell ⟨bq, 6, none⟩ (.int .i64 g')).setCell ⟨bq, 7, none⟩ (.int .i64 k')).heap[bq]? = some (.cells #[.int .i64 s', .int .i64 n', .int .i64 d', .int .i64 r', .int .i64 l', .int .i64 b', .int .i64 g', .int .i64 k'] 27)) := set8_row (s') (n') (d') (r') (l') (b') (g') (k') hrow
          have HBn : Hid (Below w.heap.size w ((((((((W_.setCell ⟨bq, 0, none⟩ (.int .i64 s')).setCell ⟨bq, 1, none⟩ (.int .i64 n')).setCell ⟨bq, 2, none⟩ (.int .i64 d')).setCell ⟨bq, 3, none⟩ (.int .i64 r')).setCell ⟨bq, 4, none⟩ (.int .i64 l')).setCell ⟨bq, 5, none⟩ (.int .i64 b')).setCell ⟨bq, 6, none⟩ (.int .i64 g')).setCell ⟨bq, 7, none⟩ (.int .i64 k'))) := set8_bel (s') (n') (d') (r') (l') (b') (g') (k') hn3.bel hbl
          have HSn : Hid ((fun w' : World => w'.heap[w.heap.size]? = some (.cells #[.int .i64 s, .int .i64 n, .int .i64 d, .int .i64 r, .int .i64 l, .int .i64 b, .int .i64 g, .int .i64 k] 45) ∧ w'.heap[w.heap.size + 1]? = some (.cells #[.int .i64 O1, .int .i64 O2, .int .i64 O3, .int .i64 O4] 48) ∧ w'.heap[A]? = some (.cells #[.int .i64 s', .int .i64 n', .int .i64 d', .int .i64 r', .int .i64 l', .int .i64 b', .int .i64 g', .int .i64 k'] 27)) ((((((((W_.setCell ⟨bq, 0, none⟩ (.int .i64 s')).setCell ⟨bq, 1, none⟩ (.int .i64 n')).setCell ⟨bq, 2, none⟩ (.int .i64 d')).setCell ⟨bq, 3, none⟩ (.int .i64 r')).setCell ⟨bq, 4, none⟩ (.int .i64 l')).setCell ⟨bq, 5, none⟩ (.int .i64 b')).setCell ⟨bq, 6, none⟩ (.int .i64 g')).setCell ⟨bq, 7, none⟩ (.int .i64 k'))) := ⟨(set8_far (s') (n') (d') (r') (l') (b') (g') (k') hS3.1 (by omega)), (set8_far (s') (n') (d') (r') (l') (b') (g') (k') hS3.2.1 (by omega)), (set8_far (s') (n') (d') (r') (l') (b') (g') (k') hS3.2.2 (by omega))⟩
          refine hK.out _ _ HSn.out (fun hHeld3 => ?_)
          clear hK K
          simp only [Act.put, List.setIfInBounds_toArray, List.set_cons_zero, List.set_cons_succ]
          refine wpAnyH_take (i := 10) (v := ?_) rfl (by kernel_rfl) (by kernel_rfl) (by kernel_rfl) (fun _ _ _ h => h) (Or.inl ⟨by rfl, ?_⟩) (by assumption) ?_
          rotate_left
          · intro w2_ hSw2; (try dsimp only at hSw2); go_simp <;> with_reducible rfl
          try simp only [Act.put, List.setIfInBounds_toArray, List.set_cons_zero, List.set_cons_succ, List.getElem_toArray, List.getElem_cons_zero, List.getElem_cons_succ]
          clear hHeld3
          refine wpAnyH_done (by kernel_rfl) ?_ _
          generalize ((((((((W_.setCell ⟨bq, 0, none⟩ (.int .i64 s')).setCell ⟨bq, 1, none⟩ (.int .i64 n')).setCell ⟨bq, 2, none⟩ (.int .i64 d')).setCell ⟨bq, 3, none⟩ (.int .i64 r')).setCell ⟨bq, 4, none⟩ (.int .i64 l')).setCell ⟨bq, 5, none⟩ (.int .i64 b')).setCell ⟨bq, 6, none⟩ (.int .i64 g')).setCell ⟨bq, 7, none⟩ (.int .i64 k')) = w9 at *
          (try go_wp2_with fail)
          go_meet
          exact ⟨bq, rfl, rfl, HSn, HPn, HBn⟩
        · obtain ⟨f3, rfl⟩ : ∃ f3, f2 = f3 + 5 := ⟨f2 - 5, by have h3 : 5 ≤ f2 := (by first | exact hf | simpa using hf); omega⟩
          obtain ⟨bq, rfl, hrow, hge⟩ := hn.x rfl
          refine wpAnyH_take (i := 5) (v := ?_) rfl (by kernel_rfl) (by kernel_rfl) (by kernel_rfl) (fun _ _ _ h => h) (Or.inl ⟨by rfl, ?_⟩) (by assumption) ?_
          rotate_left
          · intro w2_ hSw2; (try dsimp only at hSw2); go_simp <;> with_reducible rfl
          try simp only [Act.put, List.setIfInBounds_toArray, List.set_cons_zero, List.set_cons_succ, List.getElem_toArray, List.getElem_cons_zero, List.getElem_cons_succ]
          refine wpAnyH_take (i := 6) (v := ?_) rfl (by kernel_rfl) (by kernel_rfl) (by kernel_rfl) (fun _ _ _ h => h) (Or.inl ⟨by rfl, ?_⟩) (by assumption) ?_
          rotate_left
          · intro w2_ hSw2; (try dsimp only at hSw2); go_simp <;> with_reducible rfl
          try simp only [Act.put, List.setIfInBounds_toArray, List.set_cons_zero, List.set_cons_succ, List.getElem_toArray, List.getElem_cons_zero, List.getElem_cons_succ]
          refine wpAnyH_take (i := 7) (v := ?_) rfl (by kernel_rfl) (by kernel_rfl) (by kernel_rfl) (fun _ _ _ h => h) (Or.inl ⟨by rfl, ?_⟩) (by assumption) ?_
          rotate_left
          · intro w2_ hSw2; (try dsimp only at hSw2); go_simp <;> with_reducible rfl
          try simp only [Act.put, List.setIfInBounds_toArray, List.set_cons_zero, List.set_cons_succ, List.getElem_toArray, List.getElem_cons_zero, List.getElem_cons_succ]
          have hbl : w.heap.size ≤ bq := Nat.le_trans hn.le hge
          have kk := box8_cells hrow
          refine wpAnyH_ready (rs := [9]) (by kernel_rfl) (by simp) ?_
          refine AllReadyH.cons rfl (fun K hK => ?_) AllReadyH.nil
          go_simp
          have HPn : Hid (((((((((w_.setCell ⟨bq, 0, none⟩ (.int .i64 s')).setCell ⟨bq, 1, none⟩ (.int .i64 n')).setCell ⟨bq, 2, none⟩ (.int .i64 d')).setCell ⟨bq, 3, none⟩ (.int .i64 r')).setCell ⟨bq, 4, none⟩ (.int .i64 l')).setCell ⟨bq, 5, none⟩ (.int .i64 b')).setCell ⟨bq, 6, none⟩ (.int .i64 g')).setCell ⟨bq, 7, none⟩ (.int .i64 k')).heap[bq]? = some (.cells #[.int .i64 s', .int .i64 n', .int .i64 d', .int .i64 r', .int .i64 l', .int .i64 b', .int .i64 g', .int .i64 k'] 27)) := set8_row (s') (n') (d') (r') (l') (b') (g') (k') hrow
          have HBn : Hid (Below w.heap.size w ((((((((w_.setCell ⟨bq, 0, none⟩ (.int .i64 s')).setCell ⟨bq, 1, none⟩ (.int .i64 n')).setCell ⟨bq, 2, none⟩ (.int .i64 d')).setCell ⟨bq, 3, none⟩ (.int .i64 r')).setCell ⟨bq, 4, none⟩ (.int .i64 l')).setCell ⟨bq, 5, none⟩ (.int .i64 b')).setCell ⟨bq, 6, none⟩ (.int .i64 g')).setCell ⟨bq, 7, none⟩ (.int .i64 k'))) := set8_bel (s') (n') (d') (r') (l') (b') (g') (k') hn.bel hbl
          have HSn : Hid ((fun w' : World => w'.heap[w.heap.size]? = some (.cells #[.int .i64 s, .int .i64 n, .int .i64 d, .int .i64 r, .int .i64 l, .int .i64 b, .int .i64 g, .int .i64 k] 45) ∧ w'.heap[w.heap.size + 1]? = some (.cells #[.int .i64 O1, .int .i64 O2, .int .i64 O3, .int .i64 O4] 48) ∧ w'.heap[A]? = some (.cells #[.int .i64 s', .int .i64 n', .int .i64 d', .int .i64 r', .int .i64 l', .int .i64 b', .int .i64 g', .int .i64 k'] 27)) ((((((((w_.setCell ⟨bq, 0, none⟩ (.int .i64 s')).setCell ⟨bq, 1, none⟩ (.int .i64 n')).setCell ⟨bq, 2, none⟩ (.int .i64 d')).setCell ⟨bq, 3, none⟩ (.int .i64 r')).setCell ⟨bq, 4, none⟩ (.int .i64 l')).setCell ⟨bq, 5, none⟩ (.int .i64 b')).setCell ⟨bq, 6, none⟩ (.int .i64 g')).setCell ⟨bq, 7, none⟩ (.int .i64 k'))) := ⟨(set8_far (s') (n') (d') (r') (l') (b') (g') (k') hSw.1 (by omega)), (set8_far (s') (n') (d') (r') (l') (b') (g') (k') hSw.2.1 (by omega)), (set8_far (s') (n') (d') (r') (l') (b') (g') (k') hSw.2.2 (by omega))⟩
          refine hK.out _ _ HSn.out (fun hHeld3 => ?_)
          clear hK K
          simp only [Act.put, List.setIfInBounds_toArray, List.set_cons_zero, List.set_cons_succ]
          refine wpAnyH_take (i := 10) (v := ?_) rfl (by kernel_rfl) (by kernel_rfl) (by kernel_rfl) (fun _ _ _ h => h) (Or.inl ⟨by rfl, ?_⟩) (by assumption) ?_
          rotate_left
          · intro w2_ hSw2; (try dsimp only at hSw2); go_simp <;> with_reducible rfl
          try simp only [Act.put, List.setIfInBounds_toArray, List.set_cons_zero, List.set_cons_succ, List.getElem_toArray, List.getElem_cons_zero, List.getElem_cons_succ]
          clear hHeld3
          refine wpAnyH_done (by kernel_rfl) ?_ _
          generalize ((((((((w_.setCell ⟨bq, 0, none⟩ (.int .i64 s')).setCell ⟨bq, 1, none⟩ (.int .i64 n')).setCell ⟨bq, 2, none⟩ (.int .i64 d')).setCell ⟨bq, 3, none⟩ (.int .i64 r')).setCell ⟨bq, 4, none⟩ (.int .i64 l')).setCell ⟨bq, 5, none⟩ (.int .i64 b')).setCell ⟨bq, 6, none⟩ (.int .i64 g')).setCell ⟨bq, 7, none⟩ (.int .i64 k')) = w9 at *
          (try go_wp2_with fail)
          go_meet
          exact ⟨bq, rfl, rfl, HSn, HPn, HBn⟩
    case rest =>
      obtain ⟨A2, rfl, rfl, HS2, HA2, HB2⟩ := hcut
      have q1 := box8_cells HS2.out.2.2
      have q2 := box8_cells HA2.out
      go_wp2_with fail
      refine Calls.mono (KE.out _) ?_
      rintro e w7 ⟨rfl, hb7⟩
      have HB7 : Hid (Below w.heap.size w w7) := bel_on (Nat.le_refl _) HB2.out hb7
      clear hb7 q1 q2 HS2 HA2 HB2 KE
      go_wp2
      go_ret
      exact ⟨by simp, HB7.out⟩

set_option maxRecDepth 100000 in
theorem lifted (os : Os) (started : os.Started) (H : Type) (enc : TypeId × Value → H) :
    ReturnsInHanded {} Try.checked os 10 .any (Rows.fnExactTakeSpec.pre6 enc Try.prog Try.f10 Rows.fnExactTakeRow.domain false) (Rows.fnExactTakeSpec.post enc Try.prog Try.f10 false true false false) := by
  refine returnsInHanded_of_change (C := Try.checked) own started (by kernel_rfl) Try.func10
    (ChangeSpec.witness6 (enc := enc) (C := Try.checked) false ⟨#[], #[.agg #[.int .i64 0, .int .i64 0, .int .i64 0, .int .i64 0, .int .i64 0, .int .i64 0, .int .i64 0, .int .i64 0], .agg #[.int .i64 0, .int .i64 0, .int .i64 0, .int .i64 0]], []⟩ 8 (by kernel_rfl) (by kernel_rfl) (by kernel_rfl) (by kernel_rfl)) ?_
  intro W base args ds gs before hval0 hW hcnd _
  have hval : ∀ (j : Nat) t v, Try.f10.params[j]? = some t → args[j]? = some v → Value.okWide Try.prog W .any base t v := hval0
  have hW' := hW
  obtain ⟨p, q, hA0, hV, rfl, hfz, hnd⟩ := hW
  have hA : DataW.TrodAll enc Try.prog W 0 (fun _ => true) true Try.f10.params.toList args.toList ds p := hA0
  rw [Try.params10] at hA hval
  obtain ⟨v0, vs0, d0, ds0, p0, q0, hargs, rfl, rfl, h0, r0⟩ := trodAll_cons hA
  obtain ⟨v1, vs1, d1, ds1, p1, q1, rfl, rfl, rfl, h1, r1⟩ := trodAll_cons r0
  obtain ⟨rfl, rfl, rfl⟩ := trodAll_nil r1
  obtain rfl : args = #[v0, v1] := by cases args; simp_all
  obtain ⟨rfl, rfl⟩ := trodVars_none hV
  have k0 := h0
  have lt0 : ∀ x ∈ p0, x.block < W.heap.size := by obtain ⟨m, hm⟩ := k0; exact DataW.trod_lt m _ _ _ hm
  obtain ⟨p0m, rfl⟩ := open_pump (hval 0 45 v0 rfl rfl) h0
  have k1 := h1
  have lt1 : ∀ x ∈ p1, x.block < W.heap.size := by obtain ⟨m, hm⟩ := k1; exact DataW.trod_lt m _ _ _ hm
  obtain ⟨k1o, n1o, d1o, v1o, rfl, wk1o, wn1o, wd1o, wv1o⟩ := open_order (hval 1 48 v1 rfl rfl) h1
  clear hA0 hval0
  refine (walk p0m k1o n1o d1o v1o W wk1o wn1o wd1o wv1o).mono fun e W' ⟨he, bel⟩ => ?_
  subst he
  exact ⟨_, rfl, _, _, _, [], _, [], hW', trodAll_mk1 (shut_bool Try.underlying4 _), (trodAll_cons_mk (Below.trod laidOut (by kernel_rfl) (of_decide_eq_true (by kernel_rfl)) k0 bel lt0) (trodAll_cons_mk (Below.trod laidOut (by kernel_rfl) (of_decide_eq_true (by kernel_rfl)) k1 bel lt1) trodAll_mk0)), rfl, bel.frame _, fun h => by cases h⟩

theorem over : Rows.fnExactTakeRow.holds Try.pinned (OpenSpec.ofChange Rows.fnExactTakeSpec) :=
  OpenClaim.holds_of_wide 10 Try.f10 rfl rfl rfl rfl rfl rfl rfl ⟨rfl, rfl, rfl, rfl, rfl⟩ rfl rfl rfl rfl rfl (by kernel_rfl) Try.func10 (by kernel_rfl)
    (of_decide_eq_true (by kernel_rfl)) (by unfold Func.isWrapper; first | (rw [if_pos (by decide +kernel)]; kernel_rfl) | (rw [if_neg (by decide +kernel)]; exact ⟨rfl, rfl⟩))
    (fun os started H enc _ => lifted os started H enc)

end Go.Proofs.Ytpjnmkijndmemaa.fnExactTake
namespace Go.Proofs.Ytpjnmkijndmemaa
theorem fnExactTake_holds : Rows.FnExactTakeSaid :=
  fnExactTake.over
#print axioms fnExactTake_holds
end Go.Proofs.Ytpjnmkijndmemaa
