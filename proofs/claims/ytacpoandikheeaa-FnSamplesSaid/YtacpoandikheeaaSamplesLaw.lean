/-
  Proved: for every text of bytes the call of FnSamples returns true: a drawn port that samples tells the last message, again and again, and whether it is old (texts of more than 1048576 bytes the law itself lets by). No conditions.
-/
import Derived.Test.YtacpoandikheeaaRows
import Derived.Test.YtacpoandikheeaaTakeP
import Derived.Test.YtacpoandikheeaaStage18
import Derived.Test.YtacpoandikheeaaPlaces
import Derived.Test.YtacpoandikheeaaRow
import Derived.OpenShut
import Derived.ShutString
import Derived.ChangeOld
import Derived.Below
import Derived.OpenVars
import Derived.Deep.DeepHandedRow
namespace Go.Proofs.Ytacpoandikheeaa.fnSamples
open Go.ChangeShapes Go.WideShapes Go.ChangeAt Go.RowKit Go.PlainAid
open Go.ChangeMaps (open_string shut_string)
set_option linter.unusedVariables false

theorem own : ownKnob Try.prog.godebug = none := by kernel_rfl
theorem laidOut : laidOutB Try.prog = true := by kernel_rfl

set_option maxRecDepth 100000 in
set_option maxHeartbeats 4000000 in
theorem samples_in (a0 : Option Addr) (len0 cap0 : Nat) (hb : len0 ≤ 1048576) (w : World) (hcode : CodeOk w w.heap.size a0 len0) :
    Calls Try.prog 6 #[.slice a0 len0 cap0] w fun e w' => e = .returned (.bool true) ∧ Below w.heap.size w w' := by
  go_enter Try.func6, Try.ntmps6
  go_wp2_with fail
  refine (big5 a0 len0 cap0 (by omega) _).mono ?_
  rintro e w0 ⟨rfl, rfl⟩
  rw [decide_eq_false (by omega)]
  go_wp2_with fail
  have FW_1 : Hid (Below w0.heap.size w0 (w0)) := Below.refl _ _
  refine (places7 w0.heap.size a0 len0 cap0 _ hcode (Nat.le_refl _)).mono ?_
  rintro e w1 ⟨gp, cpp, p0, p1, p2, p3, rfl, h0, h1, h2, h3, hgp, c0, c1, c2, c3, hlp, hb1⟩
  have N_2 : Hid ((w0).heap.size ≤ (w1).heap.size) := (hb1).size
  have FW_3 : Hid (Below w0.heap.size w0 (w1)) := bel_on (Nat.le_refl _) FW_1.out (hb1)
  clear FW_1 hb1 hgp c3 h3
  have hr2 : p0.tmod 20 = p0 % 20 := Int.tmod_eq_emod_of_nonneg h0.1
  obtain ⟨F, hF⟩ : ∃ F, 1 + p0 % 20 = F := ⟨_, rfl⟩
  have hF1 : 1 ≤ F ∧ F ≤ 20 := by omega
  have HPR : Hid (PortR 2 1 2 1 F) := ⟨⟨by decide, by decide⟩, ⟨by decide, by decide⟩, by decide, .inr ⟨rfl, rfl, by omega, by omega⟩⟩
  have HP1 : Hid (w1.cell? ⟨gp, 1, none⟩ = some (.int .i64 p1)) := c1
  have HP2 : Hid (w1.cell? ⟨gp, 2, none⟩ = some (.int .i64 p2)) := c2
  have HI1 : Hid (InI p1 ∧ InI p2) := ⟨⟨by omega, by omega⟩, ⟨by omega, by omega⟩⟩
  have N_4 : Hid (gp < w1.heap.size) := hlp
  clear c1 c2 hlp
  have N_5 : Hid ((w1).heap.size ≤ (w1.alloc (.cells #[.int .i64 2, .int .i64 1, .int .i64 2, .int .i64 1, .int .i64 F] 33)).heap.size) := ((Below.refl (w1).heap.size (w1)).alloc (Nat.le_refl _) (.cells #[.int .i64 2, .int .i64 1, .int .i64 2, .int .i64 1, .int .i64 F] 33)).size
  have FW_6 : Hid (Below w0.heap.size w0 (w1.alloc (.cells #[.int .i64 2, .int .i64 1, .int .i64 2, .int .i64 1, .int .i64 F] 33))) := bel_on (Nat.le_refl _) FW_3.out ((Below.refl (w1).heap.size (w1)).alloc (Nat.le_refl _) (.cells #[.int .i64 2, .int .i64 1, .int .i64 2, .int .i64 1, .int .i64 F] 33))
  clear FW_3
  have N_7 : Hid (w1.heap.size < (w1.alloc (.cells #[.int .i64 2, .int .i64 1, .int .i64 2, .int .i64 1, .int .i64 F] 33)).heap.size) := by simp [Hid]
  have FQ_8 : Hid ((w1.alloc (.cells #[.int .i64 2, .int .i64 1, .int .i64 2, .int .i64 1, .int .i64 F] 33)).heap[w1.heap.size]? = some (.cells #[.int .i64 2, .int .i64 1, .int .i64 2, .int .i64 1, .int .i64 F] 33)) := heap_new w1 _
  have FY_9 : Hid (Below w1.heap.size w1 (w1.alloc (.cells #[.int .i64 2, .int .i64 1, .int .i64 2, .int .i64 1, .int .i64 F] 33))) := al1_b w1 _
  go_wp2_with fail
  clear c0 hF hr2
  generalize hW2 : w1.alloc (.cells #[.int .i64 2, .int .i64 1, .int .i64 2, .int .i64 1, .int .i64 F] 33) = w2 at *
  clear hW2
  have Q2_0 : Hid (w2.cell? ⟨w1.heap.size, 0, none⟩ = some (.int .i64 2)) := (box5_cells FQ_8.out).1.1
  have Q2_1 : Hid (w2.cell? ⟨w1.heap.size, 1, none⟩ = some (.int .i64 1)) := (box5_cells FQ_8.out).1.2.1
  have Q2_2 : Hid (w2.cell? ⟨w1.heap.size, 2, none⟩ = some (.int .i64 2)) := (box5_cells FQ_8.out).1.2.2.1
  have Q2_3 : Hid (w2.cell? ⟨w1.heap.size, 3, none⟩ = some (.int .i64 1)) := (box5_cells FQ_8.out).1.2.2.2.1
  have Q2_4 : Hid (w2.cell? ⟨w1.heap.size, 4, none⟩ = some (.int .i64 F)) := (box5_cells FQ_8.out).1.2.2.2.2
  have Q2p : Hid (w2.cell? ⟨gp, 1, none⟩ = some (.int .i64 p1)) := hid (cell_on HP1.out FY_9.out)
  go_cut [5, 6] (fun o1 o2 wc => ∃ (b1 : Nat) (qs : Option Addr) (cs : Nat), o1 = .pointer (some ⟨b1, 0, none⟩) ∧ o2 = .int .i64 0 ∧ Hid (OutL w2 wc b1 qs 1 cs [(p1, 5)]))
  case first =>
    refine wp_region_held_drew (S := fun w' => Below w2.heap.size w2 w') (by kernel_rfl) (Below.refl _ _).drew (fun hHeld => ?_)
    refine wpAnyH_take (i := 0) (v := ?_) rfl (by kernel_rfl) (by kernel_rfl) (by kernel_rfl) (fun _ _ _ h => h) (Or.inl ⟨by rfl, ?_⟩) (by assumption) ?_
    rotate_left
    · intro w_ hSw; (try dsimp only at hSw); have q0_ := cell_on Q2_0.out hSw; have q1_ := cell_on Q2_1.out hSw; have q2_ := cell_on Q2_2.out hSw; have q3_ := cell_on Q2_3.out hSw; have q4_ := cell_on Q2_4.out hSw; have q5_ := cell_on Q2p.out hSw; go_simp <;> with_reducible rfl
    simp only [Act.put, List.setIfInBounds_toArray, List.set_cons_zero, List.set_cons_succ, List.getElem_toArray, List.getElem_cons_zero]
    refine wpAnyH_take (i := 1) (v := ?_) rfl (by kernel_rfl) (by kernel_rfl) (by kernel_rfl) (fun _ _ _ h => h) (Or.inl ⟨by rfl, ?_⟩) (by assumption) ?_
    rotate_left
    · intro w_ hSw; (try dsimp only at hSw); have q0_ := cell_on Q2_0.out hSw; have q1_ := cell_on Q2_1.out hSw; have q2_ := cell_on Q2_2.out hSw; have q3_ := cell_on Q2_3.out hSw; have q4_ := cell_on Q2_4.out hSw; have q5_ := cell_on Q2p.out hSw; go_simp <;> with_reducible rfl
    simp only [Act.put, List.setIfInBounds_toArray, List.set_cons_zero, List.set_cons_succ, List.getElem_toArray, List.getElem_cons_zero, List.getElem_cons_succ]
    refine wpAnyH_take (i := 2) (v := ?_) rfl (by kernel_rfl) (by kernel_rfl) (by kernel_rfl) (fun _ _ _ h => h) (Or.inl ⟨by rfl, ?_⟩) (by assumption) ?_
    rotate_left
    · intro w_ hSw; (try dsimp only at hSw); have q0_ := cell_on Q2_0.out hSw; have q1_ := cell_on Q2_1.out hSw; have q2_ := cell_on Q2_2.out hSw; have q3_ := cell_on Q2_3.out hSw; have q4_ := cell_on Q2_4.out hSw; have q5_ := cell_on Q2p.out hSw; go_simp <;> with_reducible rfl
    simp only [Act.put, List.setIfInBounds_toArray, List.set_cons_zero, List.set_cons_succ, List.getElem_toArray, List.getElem_cons_zero, List.getElem_cons_succ]
    refine wpAnyH_take (i := 3) (v := ?_) rfl (by kernel_rfl) (by kernel_rfl) (by kernel_rfl) (fun _ _ _ h => h) (Or.inl ⟨by rfl, ?_⟩) (by assumption) ?_
    rotate_left
    · intro w_ hSw; (try dsimp only at hSw); have q0_ := cell_on Q2_0.out hSw; have q1_ := cell_on Q2_1.out hSw; have q2_ := cell_on Q2_2.out hSw; have q3_ := cell_on Q2_3.out hSw; have q4_ := cell_on Q2_4.out hSw; have q5_ := cell_on Q2p.out hSw; go_simp <;> with_reducible rfl
    simp only [Act.put, List.setIfInBounds_toArray, List.set_cons_zero, List.set_cons_succ, List.getElem_toArray, List.getElem_cons_zero, List.getElem_cons_succ]
    refine wpAnyH_take (i := 4) (v := ?_) rfl (by kernel_rfl) (by kernel_rfl) (by kernel_rfl) (fun _ _ _ h => h) (Or.inl ⟨by rfl, ?_⟩) (by assumption) ?_
    rotate_left
    · intro w_ hSw; (try dsimp only at hSw); have q0_ := cell_on Q2_0.out hSw; have q1_ := cell_on Q2_1.out hSw; have q2_ := cell_on Q2_2.out hSw; have q3_ := cell_on Q2_3.out hSw; have q4_ := cell_on Q2_4.out hSw; have q5_ := cell_on Q2p.out hSw; go_simp <;> with_reducible rfl
    simp only [Act.put, List.setIfInBounds_toArray, List.set_cons_zero, List.set_cons_succ, List.getElem_toArray, List.getElem_cons_zero, List.getElem_cons_succ]
    refine wpAnyH_named (fun a0 ha0 => ?_)
    have HA0 : Hid (a0 = _) := ha0
    clear ha0
    refine main_go1 (L := (fun xb => #[true, true, true, true, true, false, false, false, false, xb, false, false])) (St := (fun xb a w => ∃ (vx : Value), a = (a0.put (some 5) vx) ∧ VB w2 xb vx w zLi)) (K := 6) ?h (by kernel_rfl) (by decide) (by assumption) ⟨a0.tmps.getD 5 undef, (by simp only [put_self]), VB.no _ _ _ _⟩
    case h =>
      refine stage1 (i1 := 9) (c := 5) (fun xb => #[true, true, true, true, true, false, false, false, false, xb, false, false]) (fun xb => #[true, true, true, true, true, true, false, false, false, xb, false, false]) (fun xb a w => ∃ (vx : Value), a = (a0.put (some 5) vx) ∧ VB w2 xb vx w zLi) (fun xb a w => ∃ (vx : Value) (qs : Option Addr) (cs : Nat), a = ((a0.put (some 33) (.tuple #[.agg #[.slice qs 1 cs], .int .i64 0])).put (some 5) vx) ∧ Hid (OwnM w w2.heap.size qs [(p1, 5)]) ∧ VB w2 xb vx w zLi) 5 ?_ ?_ ?_ ?_ ?_ ?_ ?_
      · intro xb i hi
        cases xb
        · have e_ := mem_kernel (rs := [5, 9]) (by kernel_rfl) hi; (first | (simp at e_ ⊢; done) | (simp at e_ ⊢; omega))
        · have e_ := mem_kernel (rs := [5]) (by kernel_rfl) hi; (first | (simp at e_ ⊢; done) | (simp at e_ ⊢; omega))
      · intro xb; cases xb
        · exact ne_kernel (rs := [5, 9]) (by kernel_rfl) (by simp)
        · exact ne_kernel (rs := [5]) (by kernel_rfl) (by simp)
      · kernel_rfl
      · intro xb; cases xb <;> kernel_rfl
      · rintro a w hSw ⟨vx, rfl, bx⟩
        refine wpOp_step (i := 9) rfl (fun K hK => ?_)
        have HK : Shut _ := hK
        clear hK
        rw [HA0.out]
        simp only [Act.put, List.setIfInBounds_toArray, List.set_cons_zero, List.set_cons_succ]
        go_simp
        exact HK.out _ _ ⟨bel_on (Nat.le_refl _) hSw (al1_b w zLi), _, (by rw [HA0.out]; simp only [Act.put, List.setIfInBounds_toArray, List.set_cons_zero, List.set_cons_succ] <;> (first | with_reducible rfl | rfl)), VB.new hSw⟩
      · rintro xb a w hSw ⟨vx, rfl, bx⟩
        refine wpOp_step (i := 5) rfl (fun K hK => ?_)
        have HK : Shut _ := hK
        clear hK
        rw [HA0.out]
        simp only [Act.put, List.setIfInBounds_toArray, List.set_cons_zero, List.set_cons_succ]
        go_simp
        go_at_call 12
        refine (sendI 2 1 2 1 F p1 5 none [] 0 0 true [(p1, 5)] 1 0 rfl (by decide) ⟨(fun _ => HPR.out), (fun _ => rfl)⟩ (by simp [sendL]) rfl (by simp [sendC]) _ (fun h => by simp at h)).mono ?_
        rintro e w9 ⟨qs, cs, rfl, ho9, hb9⟩
        go_wp2_with fail
        exact HK.out _ _ ⟨bel_on (Nat.le_refl _) hSw (hb9), vx, qs, cs, (by rw [HA0.out]; simp only [Act.put, List.setIfInBounds_toArray, List.set_cons_zero, List.set_cons_succ] <;> (first | with_reducible rfl | rfl)), hid (ho9.mono hSw.size), bx.on (hb9)⟩
      refine stage1T (i := 6) rfl (by kernel_rfl) (fun xb => #[true, true, true, true, true, true, false, false, false, xb, false, false]) (fun xb => #[true, true, true, true, true, true, true, false, false, xb, false, false]) (fun xb a w => ∃ (vx : Value) (qs : Option Addr) (cs : Nat), a = ((a0.put (some 33) (.tuple #[.agg #[.slice qs 1 cs], .int .i64 0])).put (some 5) vx) ∧ Hid (OwnM w w2.heap.size qs [(p1, 5)]) ∧ VB w2 xb vx w zLi) (fun xb a w => ∃ (vx : Value) (qs : Option Addr) (cs : Nat), a = (((a0.put (some 33) (.tuple #[.agg #[.slice qs 1 cs], .int .i64 0])).put (some 27) (.tuple #[.agg #[.slice qs 1 cs], .int .i64 0])).put (some 5) vx) ∧ Hid (OwnM w w2.heap.size qs [(p1, 5)]) ∧ VB w2 xb vx w zLi) 4 ?_ ?_ ?_ ?_ ?_ ?_
      · intro xb; cases xb <;> kernel_rfl
      · intro xb; cases xb <;> kernel_rfl
      · intro xb; cases xb <;> kernel_rfl
      · exact fun _ _ _ _ h => h
      · rintro xb a w hSw ⟨vx, qs, cs, rfl, Hs, bx⟩
        refine ⟨.tuple #[.agg #[.slice qs 1 cs], .int .i64 0], Or.inl ⟨by rw [HA0.out]; rfl, ?_⟩, vx, qs, cs, (by rw [HA0.out]; simp only [Act.put, List.setIfInBounds_toArray, List.set_cons_zero, List.set_cons_succ, List.getElem_toArray, List.getElem_cons_zero, List.getElem_cons_succ]), Hs, bx⟩
        rw [HA0.out]
        simp only [Act.put, List.setIfInBounds_toArray, List.set_cons_zero, List.set_cons_succ]
        intro w hSw; go_simp <;> with_reducible rfl
      refine stage1T (i := 7) rfl (by kernel_rfl) (fun xb => #[true, true, true, true, true, true, true, false, false, xb, false, false]) (fun xb => #[true, true, true, true, true, true, true, true, false, xb, false, false]) (fun xb a w => ∃ (vx : Value) (qs : Option Addr) (cs : Nat), a = (((a0.put (some 33) (.tuple #[.agg #[.slice qs 1 cs], .int .i64 0])).put (some 27) (.tuple #[.agg #[.slice qs 1 cs], .int .i64 0])).put (some 5) vx) ∧ Hid (OwnM w w2.heap.size qs [(p1, 5)]) ∧ VB w2 xb vx w zLi) (fun xb a w => ∃ (vx : Value) (qs : Option Addr) (cs : Nat), a = ((((a0.put (some 33) (.tuple #[.agg #[.slice qs 1 cs], .int .i64 0])).put (some 27) (.tuple #[.agg #[.slice qs 1 cs], .int .i64 0])).put (some 34) (.agg #[.slice qs 1 cs])).put (some 5) vx) ∧ Hid (OwnM w w2.heap.size qs [(p1, 5)]) ∧ VB w2 xb vx w zLi) 3 ?_ ?_ ?_ ?_ ?_ ?_
      · intro xb; cases xb <;> kernel_rfl
      · intro xb; cases xb <;> kernel_rfl
      · intro xb; cases xb <;> kernel_rfl
      · exact fun _ _ _ _ h => h
      · rintro xb a w hSw ⟨vx, qs, cs, rfl, Hs, bx⟩
        refine ⟨.agg #[.slice qs 1 cs], Or.inl ⟨by rw [HA0.out]; rfl, ?_⟩, vx, qs, cs, (by rw [HA0.out]; simp only [Act.put, List.setIfInBounds_toArray, List.set_cons_zero, List.set_cons_succ, List.getElem_toArray, List.getElem_cons_zero, List.getElem_cons_succ]), Hs, bx⟩
        rw [HA0.out]
        simp only [Act.put, List.setIfInBounds_toArray, List.set_cons_zero, List.set_cons_succ]
        intro w hSw; go_simp <;> with_reducible rfl
      refine stage1T (i := 8) rfl (by kernel_rfl) (fun xb => #[true, true, true, true, true, true, true, true, false, xb, false, false]) (fun xb => #[true, true, true, true, true, true, true, true, true, xb, false, false]) (fun xb a w => ∃ (vx : Value) (qs : Option Addr) (cs : Nat), a = ((((a0.put (some 33) (.tuple #[.agg #[.slice qs 1 cs], .int .i64 0])).put (some 27) (.tuple #[.agg #[.slice qs 1 cs], .int .i64 0])).put (some 34) (.agg #[.slice qs 1 cs])).put (some 5) vx) ∧ Hid (OwnM w w2.heap.size qs [(p1, 5)]) ∧ VB w2 xb vx w zLi) (fun xb a w => ∃ (vx : Value) (qs : Option Addr) (cs : Nat), a = (((((a0.put (some 33) (.tuple #[.agg #[.slice qs 1 cs], .int .i64 0])).put (some 27) (.tuple #[.agg #[.slice qs 1 cs], .int .i64 0])).put (some 34) (.agg #[.slice qs 1 cs])).put (some 35) (.int .i64 0)).put (some 5) vx) ∧ Hid (OwnM w w2.heap.size qs [(p1, 5)]) ∧ VB w2 xb vx w zLi) 2 ?_ ?_ ?_ ?_ ?_ ?_
      · intro xb; cases xb <;> kernel_rfl
      · intro xb; cases xb <;> kernel_rfl
      · intro xb; cases xb <;> kernel_rfl
      · exact fun _ _ _ _ h => h
      · rintro xb a w hSw ⟨vx, qs, cs, rfl, Hs, bx⟩
        refine ⟨.int .i64 0, Or.inl ⟨by rw [HA0.out]; rfl, ?_⟩, vx, qs, cs, (by rw [HA0.out]; simp only [Act.put, List.setIfInBounds_toArray, List.set_cons_zero, List.set_cons_succ, List.getElem_toArray, List.getElem_cons_zero, List.getElem_cons_succ]), Hs, bx⟩
        rw [HA0.out]
        simp only [Act.put, List.setIfInBounds_toArray, List.set_cons_zero, List.set_cons_succ]
        intro w hSw; go_simp <;> with_reducible rfl
      refine stage1e (i1 := 9) (fun xb => #[true, true, true, true, true, true, true, true, true, xb, false, false]) (fun xb a w => ∃ (vx : Value) (qs : Option Addr) (cs : Nat), a = (((((a0.put (some 33) (.tuple #[.agg #[.slice qs 1 cs], .int .i64 0])).put (some 27) (.tuple #[.agg #[.slice qs 1 cs], .int .i64 0])).put (some 34) (.agg #[.slice qs 1 cs])).put (some 35) (.int .i64 0)).put (some 5) vx) ∧ Hid (OwnM w w2.heap.size qs [(p1, 5)]) ∧ VB w2 xb vx w zLi) 2 ?_ ?_ ?_ ?_ ?_
      · intro i hi; have e_ := mem_kernel (rs := [9]) (by kernel_rfl) hi; simpa using e_
      · exact ne_kernel (rs := [9]) (by kernel_rfl) (by simp)
      · kernel_rfl
      · rintro a w hSw ⟨vx, qs, cs, rfl, Hs, bx⟩
        refine wpOp_step (i := 9) rfl (fun K hK => ?_)
        have HK : Shut _ := hK
        clear hK
        rw [HA0.out]
        simp only [Act.put, List.setIfInBounds_toArray, List.set_cons_zero, List.set_cons_succ]
        go_simp
        exact HK.out _ _ ⟨bel_on (Nat.le_refl _) hSw (al1_b w zLi), _, qs, cs, (by rw [HA0.out]; simp only [Act.put, List.setIfInBounds_toArray, List.set_cons_zero, List.set_cons_succ] <;> (first | with_reducible rfl | rfl)), hid (Hs.out.on (al1_b w zLi)), VB.new hSw⟩
      · rintro fu a w hf hSw ⟨vx, qs, cs, rfl, Hs, bx⟩
        obtain ⟨f2, rfl⟩ : ∃ f2, fu = f2 + 2 := ⟨fu - 2, by omega⟩
        obtain ⟨b1, rfl, hz1, l1⟩ := bx rfl
        have kz1 := row1_cells hz1
        rw [HA0.out]
        simp only [Act.put, List.setIfInBounds_toArray, List.set_cons_zero, List.set_cons_succ]
        refine wpAnyH_ready (rs := [10]) (by kernel_rfl) (by simp) ?_
        refine AllReadyH.cons rfl (fun K hK => ?_) AllReadyH.nil
        go_simp
        refine hK.out _ _ ?_ (fun hHeld2 => ?_)
        · exact (Below.setCell hSw l1 _)
        clear hK K
        try simp only [List.setIfInBounds_toArray, List.set_cons_zero, List.set_cons_succ]
        refine wpAnyH_take (i := 11) (v := ?_) rfl (by kernel_rfl) (by kernel_rfl) (by kernel_rfl) (fun _ _ _ h => h) (Or.inl ⟨by rfl, ?_⟩) (by assumption) ?_
        rotate_left
        · intro w_ hSw2; (try dsimp only at hSw2); go_simp <;> with_reducible rfl
        try simp only [Act.put, List.setIfInBounds_toArray, List.set_cons_zero, List.set_cons_succ, List.getElem_toArray, List.getElem_cons_zero, List.getElem_cons_succ]
        clear hHeld2
        refine wpAnyH_done (by kernel_rfl) ?_ _
        (try go_wp2_with fail)
        go_meet
        refine ⟨b1, qs, cs, rfl, rfl, hid ?_⟩
        with_reducible exact out_put hz1 Hs.out l1 hSw
  case rest =>
  rename World => w3
  obtain ⟨b3, q3, c3, rfl, rfl, HO3⟩ := hcut
  have N_10 : Hid ((w2).heap.size ≤ (w3).heap.size) := (HO3.out.2.2.2).size
  have FW_11 : Hid (Below w0.heap.size w0 (w3)) := bel_on (Nat.le_refl _) FW_6.out (HO3.out.2.2.2)
  have FQ_12 : Hid ((w3).heap[w1.heap.size]? = some (.cells #[.int .i64 2, .int .i64 1, .int .i64 2, .int .i64 1, .int .i64 F] 33)) := row_on FQ_8.out (HO3.out.2.2.2)
  have FY_13 : Hid (Below w1.heap.size w1 (w3)) := bel_on (Nat.le_refl _) FY_9.out (HO3.out.2.2.2)
  clear FW_6 FQ_8 FY_9
  have FV3_14 : Hid ((w3).heap[b3]? = some (.cells #[.slice q3 1 c3] 30)) := HO3.out.1
  have FO3_15 : Hid (OwnM (w3) w2.heap.size q3 [(p1, 5)]) := HO3.out.2.1
  have N_16 : Hid (w2.heap.size ≤ b3 ∧ b3 < w3.heap.size) := ⟨HO3.out.2.2.1, row_lt HO3.out.1⟩
  clear HO3
  clear Q2_0 Q2_1 Q2_2 Q2_3 Q2_4 Q2p
  go_wp2_with fail
  have Q3_0 : Hid (w3.cell? ⟨w1.heap.size, 0, none⟩ = some (.int .i64 2)) := (box5_cells FQ_12.out).1.1
  have Q3_1 : Hid (w3.cell? ⟨w1.heap.size, 1, none⟩ = some (.int .i64 1)) := (box5_cells FQ_12.out).1.2.1
  have Q3_2 : Hid (w3.cell? ⟨w1.heap.size, 2, none⟩ = some (.int .i64 2)) := (box5_cells FQ_12.out).1.2.2.1
  have Q3_3 : Hid (w3.cell? ⟨w1.heap.size, 3, none⟩ = some (.int .i64 1)) := (box5_cells FQ_12.out).1.2.2.2.1
  have Q3_4 : Hid (w3.cell? ⟨w1.heap.size, 4, none⟩ = some (.int .i64 F)) := (box5_cells FQ_12.out).1.2.2.2.2
  have Q3p : Hid (w3.cell? ⟨gp, 2, none⟩ = some (.int .i64 p2)) := hid (cell_on HP2.out FY_13.out)
  have hltQ : w1.heap.size < b3 := (by have n0_ := N_2.out; have n1_ := N_4.out; have n2_ := N_7.out; have n3_ := N_10.out; have n4_ := N_16.out; omega)
  have hltP : gp < b3 := (by have n0_ := N_2.out; have n1_ := N_4.out; have n2_ := N_7.out; have n3_ := N_10.out; have n4_ := N_16.out; omega)
  have hltB : b3 ≤ w3.heap.size := (by have n0_ := N_2.out; have n1_ := N_4.out; have n2_ := N_7.out; have n3_ := N_10.out; have n4_ := N_16.out; omega)
  have kL := row1_cells FV3_14.out
  have kLd : w3.drew.cell? ⟨b3, 0, none⟩ = _ ∧ w3.drew.frozen? ⟨b3, 0, none⟩ = _ := kL
  have HRL : Hid (RdR w3 q3 [(p1, 5)]) := hid FO3_15.out.rd
  have HZ3 : Hid (_ = _) := FV3_14.out
  go_cut [7] (fun o1 wc => ∃ (qs : Option Addr) (cs : Nat), o1 = .int .i64 0 ∧ Hid (wc.heap[b3]? = some (.cells #[.slice qs 1 cs] 30)) ∧ Hid (RdR wc qs [(p2, 7)]) ∧ Hid (Below b3 w3 wc) ∧ Hid (w3.heap.size ≤ wc.heap.size))
  case first =>
    refine wp_region_held_drew (S := fun w' => Below b3 w3 w') (by kernel_rfl) (Below.refl _ _).drew (fun hHeld => ?_)
    refine wpAnyH_take (i := 0) (v := ?_) rfl (by kernel_rfl) (by kernel_rfl) (by kernel_rfl) (fun _ _ _ h => h) (Or.inl ⟨by rfl, ?_⟩) (by assumption) ?_
    rotate_left
    · intro w_ hSw; (try dsimp only at hSw); have q0_ := (hSw.cell (p := ⟨w1.heap.size, 0, none⟩) hltQ).trans Q3_0.out; have q1_ := (hSw.cell (p := ⟨w1.heap.size, 1, none⟩) hltQ).trans Q3_1.out; have q2_ := (hSw.cell (p := ⟨w1.heap.size, 2, none⟩) hltQ).trans Q3_2.out; have q3_ := (hSw.cell (p := ⟨w1.heap.size, 3, none⟩) hltQ).trans Q3_3.out; have q4_ := (hSw.cell (p := ⟨w1.heap.size, 4, none⟩) hltQ).trans Q3_4.out; have q5_ := (hSw.cell (p := ⟨gp, 2, none⟩) hltP).trans Q3p.out; go_simp <;> with_reducible rfl
    simp only [Act.put, List.setIfInBounds_toArray, List.set_cons_zero, List.set_cons_succ, List.getElem_toArray, List.getElem_cons_zero]
    refine wpAnyH_take (i := 2) (v := ?_) rfl (by kernel_rfl) (by kernel_rfl) (by kernel_rfl) (fun _ _ _ h => h) (Or.inl ⟨by rfl, ?_⟩) (by assumption) ?_
    rotate_left
    · intro w_ hSw; (try dsimp only at hSw); have q0_ := (hSw.cell (p := ⟨w1.heap.size, 0, none⟩) hltQ).trans Q3_0.out; have q1_ := (hSw.cell (p := ⟨w1.heap.size, 1, none⟩) hltQ).trans Q3_1.out; have q2_ := (hSw.cell (p := ⟨w1.heap.size, 2, none⟩) hltQ).trans Q3_2.out; have q3_ := (hSw.cell (p := ⟨w1.heap.size, 3, none⟩) hltQ).trans Q3_3.out; have q4_ := (hSw.cell (p := ⟨w1.heap.size, 4, none⟩) hltQ).trans Q3_4.out; have q5_ := (hSw.cell (p := ⟨gp, 2, none⟩) hltP).trans Q3p.out; go_simp <;> with_reducible rfl
    simp only [Act.put, List.setIfInBounds_toArray, List.set_cons_zero, List.set_cons_succ, List.getElem_toArray, List.getElem_cons_zero, List.getElem_cons_succ]
    refine wpAnyH_take (i := 3) (v := ?_) rfl (by kernel_rfl) (by kernel_rfl) (by kernel_rfl) (fun _ _ _ h => h) (Or.inl ⟨by rfl, ?_⟩) (by assumption) ?_
    rotate_left
    · intro w_ hSw; (try dsimp only at hSw); have q0_ := (hSw.cell (p := ⟨w1.heap.size, 0, none⟩) hltQ).trans Q3_0.out; have q1_ := (hSw.cell (p := ⟨w1.heap.size, 1, none⟩) hltQ).trans Q3_1.out; have q2_ := (hSw.cell (p := ⟨w1.heap.size, 2, none⟩) hltQ).trans Q3_2.out; have q3_ := (hSw.cell (p := ⟨w1.heap.size, 3, none⟩) hltQ).trans Q3_3.out; have q4_ := (hSw.cell (p := ⟨w1.heap.size, 4, none⟩) hltQ).trans Q3_4.out; have q5_ := (hSw.cell (p := ⟨gp, 2, none⟩) hltP).trans Q3p.out; go_simp <;> with_reducible rfl
    simp only [Act.put, List.setIfInBounds_toArray, List.set_cons_zero, List.set_cons_succ, List.getElem_toArray, List.getElem_cons_zero, List.getElem_cons_succ]
    refine wpAnyH_take (i := 4) (v := ?_) rfl (by kernel_rfl) (by kernel_rfl) (by kernel_rfl) (fun _ _ _ h => h) (Or.inl ⟨by rfl, ?_⟩) (by assumption) ?_
    rotate_left
    · intro w_ hSw; (try dsimp only at hSw); have q0_ := (hSw.cell (p := ⟨w1.heap.size, 0, none⟩) hltQ).trans Q3_0.out; have q1_ := (hSw.cell (p := ⟨w1.heap.size, 1, none⟩) hltQ).trans Q3_1.out; have q2_ := (hSw.cell (p := ⟨w1.heap.size, 2, none⟩) hltQ).trans Q3_2.out; have q3_ := (hSw.cell (p := ⟨w1.heap.size, 3, none⟩) hltQ).trans Q3_3.out; have q4_ := (hSw.cell (p := ⟨w1.heap.size, 4, none⟩) hltQ).trans Q3_4.out; have q5_ := (hSw.cell (p := ⟨gp, 2, none⟩) hltP).trans Q3p.out; go_simp <;> with_reducible rfl
    simp only [Act.put, List.setIfInBounds_toArray, List.set_cons_zero, List.set_cons_succ, List.getElem_toArray, List.getElem_cons_zero, List.getElem_cons_succ]
    refine wpAnyH_ready (rs := [1]) (by kernel_rfl) (by simp) ?_
    refine AllReadyH.cons rfl (fun K hK => ?_) AllReadyH.nil
    go_simp
    refine hK.out _ _ ?_ (fun hHeld => ?_)
    · exact (Below.refl _ _).drew
    clear hK K
    try simp only [Act.put, List.setIfInBounds_toArray, List.set_cons_zero, List.set_cons_succ, List.getElem_toArray, List.getElem_cons_zero, List.getElem_cons_succ]
    refine wpAnyH_ready (rs := [5]) (by kernel_rfl) (by simp) ?_
    refine AllReadyH.cons rfl (fun K hK => ?_) AllReadyH.nil
    go_simp
    go_at_call 12
    refine (sendI 2 1 2 1 F p2 7 q3 [(p1, 5)] 1 c3 true [(p2, 7)] 1 0 rfl (by decide) ⟨(fun _ => HPR.out), (fun _ => rfl)⟩ (by simp [sendL]) rfl (by simp [sendC]) _ (HRL.out.on (Below.refl _ _).drew)).mono ?_
    rintro e w4 ⟨qs, cs, rfl, ho4, hb4⟩
    have HB4 : Hid (Below w3.heap.size w3 w4) := hid (undrew hb4)
    go_wp2_with fail
    refine hK.out _ _ ?_ (fun hHeld => ?_)
    · exact HB4.out.mono hltB
    clear hK K
    try simp only [Act.put, List.setIfInBounds_toArray, List.set_cons_zero, List.set_cons_succ, List.getElem_toArray, List.getElem_cons_zero, List.getElem_cons_succ]
    have kz := row1_cells (row_on HZ3.out HB4.out)
    refine wpAnyH_take (i := 6) (v := ?_) rfl (by kernel_rfl) (by kernel_rfl) (by kernel_rfl) (fun _ _ _ h => h) (Or.inl ⟨by rfl, ?_⟩) (by assumption) ?_
    rotate_left
    · intro w_ hSw; (try dsimp only at hSw); have q0_ := (hSw.cell (p := ⟨w1.heap.size, 0, none⟩) hltQ).trans Q3_0.out; have q1_ := (hSw.cell (p := ⟨w1.heap.size, 1, none⟩) hltQ).trans Q3_1.out; have q2_ := (hSw.cell (p := ⟨w1.heap.size, 2, none⟩) hltQ).trans Q3_2.out; have q3_ := (hSw.cell (p := ⟨w1.heap.size, 3, none⟩) hltQ).trans Q3_3.out; have q4_ := (hSw.cell (p := ⟨w1.heap.size, 4, none⟩) hltQ).trans Q3_4.out; have q5_ := (hSw.cell (p := ⟨gp, 2, none⟩) hltP).trans Q3p.out; go_simp <;> with_reducible rfl
    try simp only [Act.put, List.setIfInBounds_toArray, List.set_cons_zero, List.set_cons_succ, List.getElem_toArray, List.getElem_cons_zero, List.getElem_cons_succ]
    refine wpAnyH_take (i := 7) (v := ?_) rfl (by kernel_rfl) (by kernel_rfl) (by kernel_rfl) (fun _ _ _ h => h) (Or.inl ⟨by rfl, ?_⟩) (by assumption) ?_
    rotate_left
    · intro w_ hSw; (try dsimp only at hSw); have q0_ := (hSw.cell (p := ⟨w1.heap.size, 0, none⟩) hltQ).trans Q3_0.out; have q1_ := (hSw.cell (p := ⟨w1.heap.size, 1, none⟩) hltQ).trans Q3_1.out; have q2_ := (hSw.cell (p := ⟨w1.heap.size, 2, none⟩) hltQ).trans Q3_2.out; have q3_ := (hSw.cell (p := ⟨w1.heap.size, 3, none⟩) hltQ).trans Q3_3.out; have q4_ := (hSw.cell (p := ⟨w1.heap.size, 4, none⟩) hltQ).trans Q3_4.out; have q5_ := (hSw.cell (p := ⟨gp, 2, none⟩) hltP).trans Q3p.out; go_simp <;> with_reducible rfl
    try simp only [Act.put, List.setIfInBounds_toArray, List.set_cons_zero, List.set_cons_succ, List.getElem_toArray, List.getElem_cons_zero, List.getElem_cons_succ]
    refine wpAnyH_take (i := 8) (v := ?_) rfl (by kernel_rfl) (by kernel_rfl) (by kernel_rfl) (fun _ _ _ h => h) (Or.inl ⟨by rfl, ?_⟩) (by assumption) ?_
    rotate_left
    · intro w_ hSw; (try dsimp only at hSw); have q0_ := (hSw.cell (p := ⟨w1.heap.size, 0, none⟩) hltQ).trans Q3_0.out; have q1_ := (hSw.cell (p := ⟨w1.heap.size, 1, none⟩) hltQ).trans Q3_1.out; have q2_ := (hSw.cell (p := ⟨w1.heap.size, 2, none⟩) hltQ).trans Q3_2.out; have q3_ := (hSw.cell (p := ⟨w1.heap.size, 3, none⟩) hltQ).trans Q3_3.out; have q4_ := (hSw.cell (p := ⟨w1.heap.size, 4, none⟩) hltQ).trans Q3_4.out; have q5_ := (hSw.cell (p := ⟨gp, 2, none⟩) hltP).trans Q3p.out; go_simp <;> with_reducible rfl
    try simp only [Act.put, List.setIfInBounds_toArray, List.set_cons_zero, List.set_cons_succ, List.getElem_toArray, List.getElem_cons_zero, List.getElem_cons_succ]
    refine wpAnyH_ready (rs := [9]) (by kernel_rfl) (by simp) ?_
    refine AllReadyH.cons rfl (fun K hK => ?_) AllReadyH.nil
    go_simp
    refine hK.out _ _ ?_ (fun hHeld => ?_)
    · exact (HB4.out.mono hltB).setCell (Nat.le_refl _) _
    clear hK K
    try simp only [Act.put, List.setIfInBounds_toArray, List.set_cons_zero, List.set_cons_succ, List.getElem_toArray, List.getElem_cons_zero, List.getElem_cons_succ]
    refine wpAnyH_take (i := 10) (v := ?_) rfl (by kernel_rfl) (by kernel_rfl) (by kernel_rfl) (fun _ _ _ h => h) (Or.inl ⟨by rfl, ?_⟩) (by assumption) ?_
    rotate_left
    · intro w_ hSw; (try dsimp only at hSw); have q0_ := (hSw.cell (p := ⟨w1.heap.size, 0, none⟩) hltQ).trans Q3_0.out; have q1_ := (hSw.cell (p := ⟨w1.heap.size, 1, none⟩) hltQ).trans Q3_1.out; have q2_ := (hSw.cell (p := ⟨w1.heap.size, 2, none⟩) hltQ).trans Q3_2.out; have q3_ := (hSw.cell (p := ⟨w1.heap.size, 3, none⟩) hltQ).trans Q3_3.out; have q4_ := (hSw.cell (p := ⟨w1.heap.size, 4, none⟩) hltQ).trans Q3_4.out; have q5_ := (hSw.cell (p := ⟨gp, 2, none⟩) hltP).trans Q3p.out; go_simp <;> with_reducible rfl
    try simp only [Act.put, List.setIfInBounds_toArray, List.set_cons_zero, List.set_cons_succ, List.getElem_toArray, List.getElem_cons_zero, List.getElem_cons_succ]
    refine wpAnyH_done (by kernel_rfl) ?_ _
    (try go_wp2_with fail)
    go_meet
    exact ⟨qs, cs, rfl, hid (set_one (row_on HZ3.out HB4.out)), hid (OwnM.put ho4 (row_on HZ3.out HB4.out) (by decide)).rd, hid ((HB4.out.mono hltB).setCell (Nat.le_refl _) _), hid (by simpa using HB4.out.size)⟩
  case rest =>
  rename World => w5
  obtain ⟨q5, c5, rfl, HV5, HR5, HB5, HS5⟩ := hcut
  clear kL kLd HRL HZ3 Q3_0 Q3_1 Q3_2 Q3_3 Q3_4 Q3p
  have HQ5 : Hid (w5.heap[w1.heap.size]? = some (.cells #[.int .i64 2, .int .i64 1, .int .i64 2, .int .i64 1, .int .i64 F] 33)) := hid (row_after FQ_12.out HB5.out hltQ)
  have HW5 : Hid (Below w0.heap.size w0 w5) := hid (FW_11.out.trans (HB5.out.mono (by have n0_ := N_2.out; have n1_ := N_4.out; have n2_ := N_7.out; have n3_ := N_10.out; have n4_ := N_16.out; omega)))
  have HY5 : Hid (Below w1.heap.size w1 w5) := hid (FY_13.out.trans (HB5.out.mono (by have n0_ := N_2.out; have n1_ := N_4.out; have n2_ := N_7.out; have n3_ := N_10.out; have n4_ := N_16.out; omega)))
  clear HB5
  clear FQ_12
  clear FW_11
  clear FY_13
  clear FV3_14
  clear FO3_15
  have HR5b : Hid (Below w5.heap.size w5 w5) := Below.refl _ _
  have kQ := box5_cells HQ5.out
  have kV3 := row1_cells HV5.out
  go_wp2_with fail
  clear kQ kV3
  refine (takeI 2 1 2 1 F (7 + F) q5 [(p2, 7)] 1 c5 true [(p2, 7)] 1 p2 0 rfl (by decide) ⟨(fun _ => HPR.out), (fun _ => rfl)⟩ ⟨by omega, by omega⟩ (by simp; exact ⟨by decide, by decide⟩) (by simp [takeL]) rfl (by simp [takeN]) (by simp [takeC, ageC]; omega) _ HR5.out).mono ?_
  rintro e w6 ⟨q6, c6, rfl, ho6, hb6⟩
  have N_17 : Hid ((w5).heap.size ≤ (w6).heap.size) := (hb6).size
  have FQ_18 : Hid ((w6).heap[w1.heap.size]? = some (.cells #[.int .i64 2, .int .i64 1, .int .i64 2, .int .i64 1, .int .i64 F] 33)) := row_on HQ5.out (hb6)
  have FW_19 : Hid (Below w0.heap.size w0 (w6)) := bel_on (Nat.le_refl _) HW5.out (hb6)
  have FY_20 : Hid (Below w1.heap.size w1 (w6)) := bel_on (Nat.le_refl _) HY5.out (hb6)
  have FV3_21 : Hid ((w6).heap[b3]? = some (.cells #[.slice q5 1 c5] 30)) := row_on HV5.out (hb6)
  have FZ_22 : Hid (Below w5.heap.size w5 (w6)) := bel_on (Nat.le_refl _) HR5b.out (hb6)
  clear HQ5 HW5 HY5 HV5 HR5b
  have FO6_23 : Hid (OwnM (w6) 0 q6 [(p2, 7)]) := ho6.mono (Nat.zero_le _)
  clear ho6 hb6
  have N_24 : Hid ((w6).heap.size ≤ (w6.alloc (.cells #[.slice q6 1 c6] 30)).heap.size) := ((Below.refl (w6).heap.size (w6)).alloc (Nat.le_refl _) (.cells #[.slice q6 1 c6] 30)).size
  have FQ_25 : Hid ((w6.alloc (.cells #[.slice q6 1 c6] 30)).heap[w1.heap.size]? = some (.cells #[.int .i64 2, .int .i64 1, .int .i64 2, .int .i64 1, .int .i64 F] 33)) := row_on FQ_18.out ((Below.refl (w6).heap.size (w6)).alloc (Nat.le_refl _) (.cells #[.slice q6 1 c6] 30))
  have FW_26 : Hid (Below w0.heap.size w0 (w6.alloc (.cells #[.slice q6 1 c6] 30))) := bel_on (Nat.le_refl _) FW_19.out ((Below.refl (w6).heap.size (w6)).alloc (Nat.le_refl _) (.cells #[.slice q6 1 c6] 30))
  have FY_27 : Hid (Below w1.heap.size w1 (w6.alloc (.cells #[.slice q6 1 c6] 30))) := bel_on (Nat.le_refl _) FY_20.out ((Below.refl (w6).heap.size (w6)).alloc (Nat.le_refl _) (.cells #[.slice q6 1 c6] 30))
  have FV3_28 : Hid ((w6.alloc (.cells #[.slice q6 1 c6] 30)).heap[b3]? = some (.cells #[.slice q5 1 c5] 30)) := row_on FV3_21.out ((Below.refl (w6).heap.size (w6)).alloc (Nat.le_refl _) (.cells #[.slice q6 1 c6] 30))
  have FZ_29 : Hid (Below w5.heap.size w5 (w6.alloc (.cells #[.slice q6 1 c6] 30))) := bel_on (Nat.le_refl _) FZ_22.out ((Below.refl (w6).heap.size (w6)).alloc (Nat.le_refl _) (.cells #[.slice q6 1 c6] 30))
  have FO6_30 : Hid (OwnM (w6.alloc (.cells #[.slice q6 1 c6] 30)) 0 q6 [(p2, 7)]) := OwnM.on FO6_23.out ((Below.refl (w6).heap.size (w6)).alloc (Nat.le_refl _) (.cells #[.slice q6 1 c6] 30))
  clear FQ_18 FW_19 FY_20 FV3_21 FZ_22 FO6_23
  have N_31 : Hid (w6.heap.size < (w6.alloc (.cells #[.slice q6 1 c6] 30)).heap.size) := by simp [Hid]
  have FM_32 : Hid ((w6.alloc (.cells #[.slice q6 1 c6] 30)).heap[w6.heap.size]? = some (.cells #[.slice q6 1 c6] 30)) := heap_new w6 _
  have kQ := box5_cells FQ_25.out
  go_wp2_with fail
  clear kQ
  refine (takeI 2 1 2 1 F (8 + F) q6 [(p2, 7)] 1 c6 true [(p2, 7)] 1 p2 3 rfl (by decide) ⟨(fun _ => HPR.out), (fun _ => rfl)⟩ ⟨by omega, by omega⟩ (by simp; exact ⟨by decide, by decide⟩) (by simp [takeL]) rfl (by simp [takeN]) (by simp [takeC, ageC]; omega) _ FO6_30.out.rd).mono ?_
  rintro e w7 ⟨q7, c7, rfl, ho7, hb7⟩
  have N_33 : Hid ((w6.alloc (.cells #[.slice q6 1 c6] 30)).heap.size ≤ (w7).heap.size) := (hb7).size
  have FQ_34 : Hid ((w7).heap[w1.heap.size]? = some (.cells #[.int .i64 2, .int .i64 1, .int .i64 2, .int .i64 1, .int .i64 F] 33)) := row_on FQ_25.out (hb7)
  have FW_35 : Hid (Below w0.heap.size w0 (w7)) := bel_on (Nat.le_refl _) FW_26.out (hb7)
  have FY_36 : Hid (Below w1.heap.size w1 (w7)) := bel_on (Nat.le_refl _) FY_27.out (hb7)
  have FV3_37 : Hid ((w7).heap[b3]? = some (.cells #[.slice q5 1 c5] 30)) := row_on FV3_28.out (hb7)
  have FZ_38 : Hid (Below w5.heap.size w5 (w7)) := bel_on (Nat.le_refl _) FZ_29.out (hb7)
  have FO6_39 : Hid (OwnM (w7) 0 q6 [(p2, 7)]) := OwnM.on FO6_30.out (hb7)
  have FM_40 : Hid ((w7).heap[w6.heap.size]? = some (.cells #[.slice q6 1 c6] 30)) := row_on FM_32.out (hb7)
  clear FQ_25 FW_26 FY_27 FV3_28 FZ_29 FO6_30 FM_32
  have FO7_41 : Hid (OwnM (w7) 0 q7 [(p2, 7)]) := ho7.mono (Nat.zero_le _)
  clear ho7 hb7
  have N_42 : Hid ((w7).heap.size ≤ (w7.alloc (.cells #[.slice q7 1 c7] 30)).heap.size) := ((Below.refl (w7).heap.size (w7)).alloc (Nat.le_refl _) (.cells #[.slice q7 1 c7] 30)).size
  have FQ_43 : Hid ((w7.alloc (.cells #[.slice q7 1 c7] 30)).heap[w1.heap.size]? = some (.cells #[.int .i64 2, .int .i64 1, .int .i64 2, .int .i64 1, .int .i64 F] 33)) := row_on FQ_34.out ((Below.refl (w7).heap.size (w7)).alloc (Nat.le_refl _) (.cells #[.slice q7 1 c7] 30))
  have FW_44 : Hid (Below w0.heap.size w0 (w7.alloc (.cells #[.slice q7 1 c7] 30))) := bel_on (Nat.le_refl _) FW_35.out ((Below.refl (w7).heap.size (w7)).alloc (Nat.le_refl _) (.cells #[.slice q7 1 c7] 30))
  have FY_45 : Hid (Below w1.heap.size w1 (w7.alloc (.cells #[.slice q7 1 c7] 30))) := bel_on (Nat.le_refl _) FY_36.out ((Below.refl (w7).heap.size (w7)).alloc (Nat.le_refl _) (.cells #[.slice q7 1 c7] 30))
  have FV3_46 : Hid ((w7.alloc (.cells #[.slice q7 1 c7] 30)).heap[b3]? = some (.cells #[.slice q5 1 c5] 30)) := row_on FV3_37.out ((Below.refl (w7).heap.size (w7)).alloc (Nat.le_refl _) (.cells #[.slice q7 1 c7] 30))
  have FZ_47 : Hid (Below w5.heap.size w5 (w7.alloc (.cells #[.slice q7 1 c7] 30))) := bel_on (Nat.le_refl _) FZ_38.out ((Below.refl (w7).heap.size (w7)).alloc (Nat.le_refl _) (.cells #[.slice q7 1 c7] 30))
  have FO6_48 : Hid (OwnM (w7.alloc (.cells #[.slice q7 1 c7] 30)) 0 q6 [(p2, 7)]) := OwnM.on FO6_39.out ((Below.refl (w7).heap.size (w7)).alloc (Nat.le_refl _) (.cells #[.slice q7 1 c7] 30))
  have FM_49 : Hid ((w7.alloc (.cells #[.slice q7 1 c7] 30)).heap[w6.heap.size]? = some (.cells #[.slice q6 1 c6] 30)) := row_on FM_40.out ((Below.refl (w7).heap.size (w7)).alloc (Nat.le_refl _) (.cells #[.slice q7 1 c7] 30))
  have FO7_50 : Hid (OwnM (w7.alloc (.cells #[.slice q7 1 c7] 30)) 0 q7 [(p2, 7)]) := OwnM.on FO7_41.out ((Below.refl (w7).heap.size (w7)).alloc (Nat.le_refl _) (.cells #[.slice q7 1 c7] 30))
  clear FQ_34 FW_35 FY_36 FV3_37 FZ_38 FO6_39 FM_40 FO7_41
  have N_51 : Hid (w7.heap.size < (w7.alloc (.cells #[.slice q7 1 c7] 30)).heap.size) := by simp [Hid]
  have FM2_52 : Hid ((w7.alloc (.cells #[.slice q7 1 c7] 30)).heap[w7.heap.size]? = some (.cells #[.slice q7 1 c7] 30)) := heap_new w7 _
  have kQ := box5_cells FQ_43.out
  go_wp2_with fail
  clear kQ
  refine (takeI 2 1 2 1 F 9 none [] 0 0 true [] 0 0 2 rfl (by decide) ⟨(fun _ => HPR.out), (fun _ => rfl)⟩ ⟨by omega, by omega⟩ (by simp) (by simp [takeL]) rfl (by simp [takeN]) (by simp [takeC]) _ (fun h => by simp at h)).mono ?_
  rintro e w8 ⟨q8, c8, rfl, ho8, hb8⟩
  have N_53 : Hid ((w7.alloc (.cells #[.slice q7 1 c7] 30)).heap.size ≤ (w8).heap.size) := (hb8).size
  have FQ_54 : Hid ((w8).heap[w1.heap.size]? = some (.cells #[.int .i64 2, .int .i64 1, .int .i64 2, .int .i64 1, .int .i64 F] 33)) := row_on FQ_43.out (hb8)
  have FW_55 : Hid (Below w0.heap.size w0 (w8)) := bel_on (Nat.le_refl _) FW_44.out (hb8)
  have FY_56 : Hid (Below w1.heap.size w1 (w8)) := bel_on (Nat.le_refl _) FY_45.out (hb8)
  have FV3_57 : Hid ((w8).heap[b3]? = some (.cells #[.slice q5 1 c5] 30)) := row_on FV3_46.out (hb8)
  have FZ_58 : Hid (Below w5.heap.size w5 (w8)) := bel_on (Nat.le_refl _) FZ_47.out (hb8)
  have FO6_59 : Hid (OwnM (w8) 0 q6 [(p2, 7)]) := OwnM.on FO6_48.out (hb8)
  have FM_60 : Hid ((w8).heap[w6.heap.size]? = some (.cells #[.slice q6 1 c6] 30)) := row_on FM_49.out (hb8)
  have FO7_61 : Hid (OwnM (w8) 0 q7 [(p2, 7)]) := OwnM.on FO7_50.out (hb8)
  have FM2_62 : Hid ((w8).heap[w7.heap.size]? = some (.cells #[.slice q7 1 c7] 30)) := row_on FM2_52.out (hb8)
  clear FQ_43 FW_44 FY_45 FV3_46 FZ_47 FO6_48 FM_49 FO7_50 FM2_52
  have FO8_63 : Hid (OwnM (w8) 0 q8 []) := ho8.mono (Nat.zero_le _)
  clear ho8 hb8
  have N_64 : Hid ((w8).heap.size ≤ (w8.alloc (.cells #[.slice q8 0 c8] 30)).heap.size) := ((Below.refl (w8).heap.size (w8)).alloc (Nat.le_refl _) (.cells #[.slice q8 0 c8] 30)).size
  have FQ_65 : Hid ((w8.alloc (.cells #[.slice q8 0 c8] 30)).heap[w1.heap.size]? = some (.cells #[.int .i64 2, .int .i64 1, .int .i64 2, .int .i64 1, .int .i64 F] 33)) := row_on FQ_54.out ((Below.refl (w8).heap.size (w8)).alloc (Nat.le_refl _) (.cells #[.slice q8 0 c8] 30))
  have FW_66 : Hid (Below w0.heap.size w0 (w8.alloc (.cells #[.slice q8 0 c8] 30))) := bel_on (Nat.le_refl _) FW_55.out ((Below.refl (w8).heap.size (w8)).alloc (Nat.le_refl _) (.cells #[.slice q8 0 c8] 30))
  have FY_67 : Hid (Below w1.heap.size w1 (w8.alloc (.cells #[.slice q8 0 c8] 30))) := bel_on (Nat.le_refl _) FY_56.out ((Below.refl (w8).heap.size (w8)).alloc (Nat.le_refl _) (.cells #[.slice q8 0 c8] 30))
  have FV3_68 : Hid ((w8.alloc (.cells #[.slice q8 0 c8] 30)).heap[b3]? = some (.cells #[.slice q5 1 c5] 30)) := row_on FV3_57.out ((Below.refl (w8).heap.size (w8)).alloc (Nat.le_refl _) (.cells #[.slice q8 0 c8] 30))
  have FZ_69 : Hid (Below w5.heap.size w5 (w8.alloc (.cells #[.slice q8 0 c8] 30))) := bel_on (Nat.le_refl _) FZ_58.out ((Below.refl (w8).heap.size (w8)).alloc (Nat.le_refl _) (.cells #[.slice q8 0 c8] 30))
  have FO6_70 : Hid (OwnM (w8.alloc (.cells #[.slice q8 0 c8] 30)) 0 q6 [(p2, 7)]) := OwnM.on FO6_59.out ((Below.refl (w8).heap.size (w8)).alloc (Nat.le_refl _) (.cells #[.slice q8 0 c8] 30))
  have FM_71 : Hid ((w8.alloc (.cells #[.slice q8 0 c8] 30)).heap[w6.heap.size]? = some (.cells #[.slice q6 1 c6] 30)) := row_on FM_60.out ((Below.refl (w8).heap.size (w8)).alloc (Nat.le_refl _) (.cells #[.slice q8 0 c8] 30))
  have FO7_72 : Hid (OwnM (w8.alloc (.cells #[.slice q8 0 c8] 30)) 0 q7 [(p2, 7)]) := OwnM.on FO7_61.out ((Below.refl (w8).heap.size (w8)).alloc (Nat.le_refl _) (.cells #[.slice q8 0 c8] 30))
  have FM2_73 : Hid ((w8.alloc (.cells #[.slice q8 0 c8] 30)).heap[w7.heap.size]? = some (.cells #[.slice q7 1 c7] 30)) := row_on FM2_62.out ((Below.refl (w8).heap.size (w8)).alloc (Nat.le_refl _) (.cells #[.slice q8 0 c8] 30))
  have FO8_74 : Hid (OwnM (w8.alloc (.cells #[.slice q8 0 c8] 30)) 0 q8 []) := OwnM.on FO8_63.out ((Below.refl (w8).heap.size (w8)).alloc (Nat.le_refl _) (.cells #[.slice q8 0 c8] 30))
  clear FQ_54 FW_55 FY_56 FV3_57 FZ_58 FO6_59 FM_60 FO7_61 FM2_62 FO8_63
  have N_75 : Hid (w8.heap.size < (w8.alloc (.cells #[.slice q8 0 c8] 30)).heap.size) := by simp [Hid]
  have FM3_76 : Hid ((w8.alloc (.cells #[.slice q8 0 c8] 30)).heap[w8.heap.size]? = some (.cells #[.slice q8 0 c8] 30)) := heap_new w8 _
  have kM := row1_cells FM_71.out
  have kp := cell_on HP2.out FY_67.out
  go_wp2
  go_ret
  exact ⟨rfl, FW_66.out⟩

theorem walk (a0 : Option Addr) (len0 cap0 : Nat) (z0 : List Int) (w : World) (w0 : IsRow .u8 w a0 len0 cap0 z0) :
    Calls Try.prog 6 #[.slice a0 len0 cap0] w fun e w' => e = .returned (.bool true) ∧ Below w.heap.size w w' := by
  have hlen : len0 ≤ 9223372036854775807 := by
    rcases w0 with ⟨_, h, _⟩ | ⟨x, _, h1, h2, _⟩
    · omega
    · unfold maxLen at h2; omega
  by_cases hb : len0 ≤ 1048576
  · exact samples_in a0 len0 cap0 hb w (code_of_row w0 hb)
  · have hb' : 1048576 < len0 := by omega
    go_enter Try.func6, Try.ntmps6
    go_wp2_with fail
    refine (big5 a0 len0 cap0 hlen _).mono ?_
    rintro e w1 ⟨rfl, rfl⟩
    rw [decide_eq_true (by omega)]
    go_wp2
    go_ret
    exact ⟨rfl, Below.refl _ _⟩

set_option maxRecDepth 100000 in
theorem lifted (os : Os) (started : os.Started) (H : Type) (enc : TypeId × Value → H) :
    ReturnsInHanded {} Try.checked os 6 .any (Rows.fnSamplesSpec.pre6 enc Try.prog Try.f6 Rows.fnSamplesRow.domain false) (Rows.fnSamplesSpec.post enc Try.prog Try.f6 false true false false) := by
  refine returnsInHanded_of_change (C := Try.checked) own started (by kernel_rfl) Try.func6
    (ChangeSpec.witness6 (enc := enc) (C := Try.checked) false ⟨#[], #[.slice none 0 0], []⟩ 8 (by kernel_rfl) (by kernel_rfl) (by kernel_rfl) (by kernel_rfl)) ?_
  intro W base args ds gs before hval0 hW hcnd _
  have hval : ∀ (j : Nat) t v, Try.f6.params[j]? = some t → args[j]? = some v → Value.okWide Try.prog W .any base t v := hval0
  have hW' := hW
  obtain ⟨p, q, hA0, hV, rfl, hfz, hnd⟩ := hW
  have hA : DataW.TrodAll enc Try.prog W 0 (fun _ => true) true Try.f6.params.toList args.toList ds p := hA0
  rw [Try.params6] at hA hval
  obtain ⟨v0, vs0, d0, ds0, p0, q0, hargs, rfl, rfl, h0, r0⟩ := trodAll_cons hA
  obtain ⟨rfl, rfl, rfl⟩ := trodAll_nil r0
  obtain rfl : args = #[v0] := by cases args; simp_all
  obtain ⟨rfl, rfl⟩ := trodVars_none hV
  have k0 := h0
  have lt0 : ∀ x ∈ p0, x.block < W.heap.size := by obtain ⟨m, hm⟩ := k0; exact DataW.trod_lt m _ _ _ hm
  obtain ⟨a0, len0, cap0, z0, rfl, w0⟩ := open_code (hval 0 42 v0 rfl rfl) h0
  clear hA0 hval0
  refine (walk a0 len0 cap0 z0 W w0).mono fun e W' ⟨he, bel⟩ => ?_
  subst he
  exact ⟨_, rfl, _, _, _, [], _, [], hW', trodAll_mk1 (shut_bool Try.underlying4 _), (trodAll_cons_mk (Below.trod laidOut (by kernel_rfl) (of_decide_eq_true (by kernel_rfl)) k0 bel lt0) trodAll_mk0), rfl, bel.frame _, fun h => by cases h⟩

theorem over : Rows.fnSamplesRow.holds Try.pinned (OpenSpec.ofChange Rows.fnSamplesSpec) :=
  OpenClaim.holds_of_wide 6 Try.f6 rfl rfl rfl rfl rfl rfl rfl ⟨rfl, rfl, rfl, rfl, rfl⟩ rfl rfl rfl rfl rfl (by kernel_rfl) Try.func6 (by kernel_rfl)
    (of_decide_eq_true (by kernel_rfl)) (by unfold Func.isWrapper; first | (rw [if_pos (by decide +kernel)]; kernel_rfl) | (rw [if_neg (by decide +kernel)]; exact ⟨rfl, rfl⟩))
    (fun os started H enc _ => lifted os started H enc)

end Go.Proofs.Ytacpoandikheeaa.fnSamples
namespace Go.Proofs.Ytacpoandikheeaa
theorem fnSamples_holds : Rows.FnSamplesSaid :=
  fnSamples.over
#print axioms fnSamples_holds
end Go.Proofs.Ytacpoandikheeaa
