/-
  Proved: for every text of bytes the call of FnQueues returns true: what is sent to a drawn port that queues is taken in order, as long as there is room (texts of more than 1048576 bytes the law itself lets by). No conditions.
-/
import Derived.Test.YtacpoandikheeaaRows
import Derived.Test.YtacpoandikheeaaTakeP
import Derived.Test.YtacpoandikheeaaStage18
import Derived.Test.YtacpoandikheeaaPlaces
import Derived.Test.YtacpoandikheeaaRow
import Derived.OpenShut
import Derived.ShutString
import Derived.ChangeOld
import Derived.Below
import Derived.OpenVars
import Derived.Deep.DeepHandedRow
namespace Go.Proofs.Ytacpoandikheeaa.fnQueues
open Go.ChangeShapes Go.WideShapes Go.ChangeAt Go.RowKit Go.PlainAid
open Go.ChangeMaps (open_string shut_string)
set_option linter.unusedVariables false

theorem own : ownKnob Try.prog.godebug = none := by kernel_rfl
theorem laidOut : laidOutB Try.prog = true := by kernel_rfl

/-- what is in the queue behind j messages, if it takes M -/
def qL (P : List Int) (M j : Nat) : List (Int × Int) := (List.range (min j M)).map fun i => (P.getD i 0, (i : Int))
theorem qL_len (P : List Int) (M j : Nat) : (qL P M j).length = min j M := by simp [qL]
theorem qL_yes (P : List Int) (M j : Nat) (h : j < M) : qL P M j ++ [(P.getD j 0, (j : Int))] = qL P M (j + 1) := by
  unfold qL
  rw [Nat.min_eq_left (by omega), Nat.min_eq_left (by omega), List.range_succ, List.map_append]
  rfl
theorem qL_no (P : List Int) (M j : Nat) (h : ¬ j < M) : qL P M j = qL P M (j + 1) := by
  unfold qL
  rw [Nat.min_eq_right (by omega), Nat.min_eq_right (by omega)]
theorem qL_in (P : List Int) (M j : Nat) (hM : M ≤ 6) : ∀ p ∈ qL P M j, InI p.2 := by
  intro p hp
  obtain ⟨i, hi, rfl⟩ := List.mem_map.1 hp
  have := List.mem_range.1 hi
  refine ⟨?_, ?_⟩ <;> simp <;> omega
theorem qL_drop (P : List Int) (M j : Nat) (hM : M ≤ 6) (h : j < M) : (qL P M 8).drop j = (P.getD j 0, (j : Int)) :: (qL P M 8).drop (j + 1) := by
  have hl : j < (qL P M 8).length := by rw [qL_len]; omega
  rw [List.drop_eq_getElem_cons hl]
  simp [qL]
set_option maxRecDepth 100000 in
set_option maxHeartbeats 8000000 in
theorem queues_in (a0 : Option Addr) (len0 cap0 : Nat) (hb : len0 ≤ 1048576) (w : World) (hcode : CodeOk w w.heap.size a0 len0) :
    Calls Try.prog 5 #[.slice a0 len0 cap0] w fun e w' => e = .returned (.bool true) ∧ Below w.heap.size w w' := by
  go_enter Try.func5, Try.ntmps5
  go_wp2_with fail
  refine (big5 a0 len0 cap0 (by omega) _).mono ?_
  rintro e w0 ⟨rfl, rfl⟩
  rw [decide_eq_false (by omega)]
  go_wp2_with fail
  refine (places17 w0.heap.size a0 len0 cap0 _ hcode (Nat.le_refl _)).mono ?_
  rintro e w1 ⟨gp, cp, P, rfl, hPl, hPs, hgp, hPc, hb1⟩
  have HPC : Hid (∀ j (hj : j < P.length), w1.cell? ⟨gp, j, none⟩ = some (.int .i64 P[j])) := hPc
  have HPL : Hid (P.length = 12) := hPl
  have HPS : Hid (Small P) := hPs
  rw [hPl]
  have c0 := hPc 0 (by omega)
  have hlp : gp < w1.heap.size := World.block_lt_of_cell? _ _ c0
  obtain ⟨p0, hp0⟩ : ∃ p0, P[0] = p0 := ⟨_, rfl⟩
  have h0 : 0 ≤ p0 ∧ p0 ≤ 9999 := by rw [← hp0]; exact hPs _ (List.getElem_mem _)
  rw [hp0] at c0
  have hr2 : p0.tmod 6 = p0 % 6 := Int.tmod_eq_emod_of_nonneg h0.1
  obtain ⟨M, hM⟩ : ∃ M : Nat, 1 + p0 % 6 = (M : Int) := ⟨(1 + p0 % 6).toNat, by omega⟩
  have hM1 : 1 ≤ M := by omega
  have hM2 : M ≤ 6 := by omega
  have HPR : Hid (PortR 1 1 2 (M : Int) 0) := ⟨⟨by decide, by decide⟩, ⟨by decide, by decide⟩, by decide, .inl ⟨rfl, ⟨by omega, by omega⟩, rfl⟩⟩
  have HW1 : Hid (Below w0.heap.size w0 w1) := hb1
  clear hPc hPl hPs hp0 hb1 hgp
  have HQ0 : Hid (((w1.alloc (.cells #[.int .i64 1, .int .i64 1, .int .i64 2, .int .i64 (M : Int), .int .i64 0] 33)).alloc (.cells #[.slice none 0 0] 30)).heap[w1.heap.size]? = some (.cells #[.int .i64 1, .int .i64 1, .int .i64 2, .int .i64 (M : Int), .int .i64 0] 33)) := al2_1 w1 _ _
  have HV0 : Hid (((w1.alloc (.cells #[.int .i64 1, .int .i64 1, .int .i64 2, .int .i64 (M : Int), .int .i64 0] 33)).alloc (.cells #[.slice none 0 0] 30)).heap[w1.heap.size + 1]? = some (.cells #[.slice none 0 0] 30)) := al2_2 w1 _ _
  have HY0 : Hid (Below w1.heap.size w1 ((w1.alloc (.cells #[.int .i64 1, .int .i64 1, .int .i64 2, .int .i64 (M : Int), .int .i64 0] 33)).alloc (.cells #[.slice none 0 0] 30))) := al2_b w1 _ _
  go_wp2
  clear c0 hr2 hM
  go_loopg [6, 7] 8 (fun gk nv iv wr => ∃ j n : Nat, j + gk = 8 ∧ nv = .int .i64 (n : Int) ∧ iv = .int .i64 (j : Int) ∧ Hid (n = min j M) ∧ ∃ (q : Option Addr) (c : Nat), Hid (wr.heap[w1.heap.size + 1]? = some (.cells #[.slice q n c] 30)) ∧ Hid (RdR wr q (qL P M j)) ∧ Hid (wr.heap[w1.heap.size]? = some (.cells #[.int .i64 1, .int .i64 1, .int .i64 2, .int .i64 (M : Int), .int .i64 0] 33)) ∧ Hid (Below w1.heap.size w1 wr))
  case atStart => exact ⟨0, 0, by omega, rfl, rfl, hid (by simp), none, 0, HV0, hid (fun h => by simp [qL] at h), HQ0, HY0⟩
  case round =>
    clear HQ0 HV0 HY0
    obtain ⟨j, n, hj, rfl, rfl, HN, q, c, HV, HR, HQ, HY⟩ := hrel
    have hn8 : n ≤ 6 := by have := HN.out; omega
    by_cases hlt : j < 8
    · obtain ⟨x, hx⟩ : ∃ x, P.getD j 0 = x := ⟨_, rfl⟩
      have HX : Hid (P.getD j 0 = x) := hx
      have HPX : Hid (w1.cell? ⟨gp, j, none⟩ = some (.int .i64 x)) := hid (by
        have := HPC.out j (by have := HPL.out; omega)
        rw [this, ← hx]
        simp [List.getD, List.getElem?_eq_getElem (show j < P.length by have := HPL.out; omega)])
      have HLN : Hid ((qL P M j).length = n) := hid (by rw [qL_len]; exact HN.out.symm)
      clear hx
      by_cases hm : j < M
      · have hL2 : sendL true 1 (M : Int) (qL P M j) x (j : Int) = (qL P M (j + 1)) := by unfold sendL; rw [if_pos rfl, if_neg (by decide), if_pos (by rw [qL_len]; omega), ← HX.out]; exact qL_yes P M j hm
        have hC2 : sendC true 1 (M : Int) n = 0 := by unfold sendC; rw [if_pos rfl, if_neg (by decide), if_pos (by have := HN.out; omega)]
        have hN2 : (qL P M (j + 1)).length = n + 1 := by rw [qL_len]; have := HN.out; omega
        have HL2 : Hid (_ = _) := hL2
        have HC2 : Hid (_ = _) := hC2
        have HN2 : Hid (_ = _) := hN2
        clear hL2 hC2 hN2
        have Q0 : Hid (wr.cell? ⟨w1.heap.size, 0, none⟩ = some (.int .i64 1)) := (box5_cells HQ.out).1.1
        have Q1 : Hid (wr.cell? ⟨w1.heap.size, 1, none⟩ = some (.int .i64 1)) := (box5_cells HQ.out).1.2.1
        have Q2 : Hid (wr.cell? ⟨w1.heap.size, 2, none⟩ = some (.int .i64 2)) := (box5_cells HQ.out).1.2.2.1
        have Q3 : Hid (wr.cell? ⟨w1.heap.size, 3, none⟩ = some (.int .i64 (M : Int))) := (box5_cells HQ.out).1.2.2.2.1
        have Q4 : Hid (wr.cell? ⟨w1.heap.size, 4, none⟩ = some (.int .i64 0)) := (box5_cells HQ.out).1.2.2.2.2
        have Q5 : Hid (wr.cell? ⟨w1.heap.size + 1, 0, none⟩ = some (.slice q n c)) := (row1_cells HV.out).1
        have Q6 : Hid (wr.cell? ⟨gp, j, none⟩ = some (.int .i64 x)) := hid (cell_on HPX.out HY.out)
        have i0 : (0 : Int) ≤ (j : Int) := by omega
        have i1 : (j : Int) < 12 := by omega
        have i2 : j < 12 := by omega
        have hd8 : decide ((j : Int) < 8) = true := decide_eq_true (by omega)
        go_wp2_with fail
        clear hd8
        go_cut [8, 9] (fun o1 o2 wc => ∃ (b1 : Nat) (qs : Option Addr) (cs : Nat), o1 = .pointer (some ⟨b1, 0, none⟩) ∧ o2 = .int .i64 0 ∧ Hid (OutL wr wc b1 qs (n + 1) cs (qL P M (j + 1))))
        case first =>
          refine wp_region_held_drew (S := fun w' => Below wr.heap.size wr w') (by kernel_rfl) (Below.refl _ _).drew (fun hHeld => ?_)
          refine wpAnyH_take (i := 0) (v := ?_) rfl (by kernel_rfl) (by kernel_rfl) (by kernel_rfl) (fun _ _ _ h => h) (Or.inl ⟨by rfl, ?_⟩) (by assumption) ?_
          rotate_left
          · intro w_ hSw; (try dsimp only at hSw); have q0_ := cell_on Q0.out hSw; have q1_ := cell_on Q1.out hSw; have q2_ := cell_on Q2.out hSw; have q3_ := cell_on Q3.out hSw; have q4_ := cell_on Q4.out hSw; have q5_ := cell_on Q5.out hSw; have q6_ := cell_on Q6.out hSw; go_simp <;> with_reducible rfl
          simp only [Act.put, List.setIfInBounds_toArray, List.set_cons_zero, List.set_cons_succ, List.getElem_toArray, List.getElem_cons_zero]
          refine wpAnyH_take (i := 1) (v := ?_) rfl (by kernel_rfl) (by kernel_rfl) (by kernel_rfl) (fun _ _ _ h => h) (Or.inl ⟨by rfl, ?_⟩) (by assumption) ?_
          rotate_left
          · intro w_ hSw; (try dsimp only at hSw); have q0_ := cell_on Q0.out hSw; have q1_ := cell_on Q1.out hSw; have q2_ := cell_on Q2.out hSw; have q3_ := cell_on Q3.out hSw; have q4_ := cell_on Q4.out hSw; have q5_ := cell_on Q5.out hSw; have q6_ := cell_on Q6.out hSw; go_simp <;> with_reducible rfl
          simp only [Act.put, List.setIfInBounds_toArray, List.set_cons_zero, List.set_cons_succ, List.getElem_toArray, List.getElem_cons_zero, List.getElem_cons_succ]
          refine wpAnyH_take (i := 2) (v := ?_) rfl (by kernel_rfl) (by kernel_rfl) (by kernel_rfl) (fun _ _ _ h => h) (Or.inl ⟨by rfl, ?_⟩) (by assumption) ?_
          rotate_left
          · intro w_ hSw; (try dsimp only at hSw); have q0_ := cell_on Q0.out hSw; have q1_ := cell_on Q1.out hSw; have q2_ := cell_on Q2.out hSw; have q3_ := cell_on Q3.out hSw; have q4_ := cell_on Q4.out hSw; have q5_ := cell_on Q5.out hSw; have q6_ := cell_on Q6.out hSw; go_simp <;> with_reducible rfl
          simp only [Act.put, List.setIfInBounds_toArray, List.set_cons_zero, List.set_cons_succ, List.getElem_toArray, List.getElem_cons_zero, List.getElem_cons_succ]
          refine wpAnyH_take (i := 3) (v := ?_) rfl (by kernel_rfl) (by kernel_rfl) (by kernel_rfl) (fun _ _ _ h => h) (Or.inl ⟨by rfl, ?_⟩) (by assumption) ?_
          rotate_left
          · intro w_ hSw; (try dsimp only at hSw); have q0_ := cell_on Q0.out hSw; have q1_ := cell_on Q1.out hSw; have q2_ := cell_on Q2.out hSw; have q3_ := cell_on Q3.out hSw; have q4_ := cell_on Q4.out hSw; have q5_ := cell_on Q5.out hSw; have q6_ := cell_on Q6.out hSw; go_simp <;> with_reducible rfl
          simp only [Act.put, List.setIfInBounds_toArray, List.set_cons_zero, List.set_cons_succ, List.getElem_toArray, List.getElem_cons_zero, List.getElem_cons_succ]
          refine wpAnyH_take (i := 4) (v := ?_) rfl (by kernel_rfl) (by kernel_rfl) (by kernel_rfl) (fun _ _ _ h => h) (Or.inl ⟨by rfl, ?_⟩) (by assumption) ?_
          rotate_left
          · intro w_ hSw; (try dsimp only at hSw); have q0_ := cell_on Q0.out hSw; have q1_ := cell_on Q1.out hSw; have q2_ := cell_on Q2.out hSw; have q3_ := cell_on Q3.out hSw; have q4_ := cell_on Q4.out hSw; have q5_ := cell_on Q5.out hSw; have q6_ := cell_on Q6.out hSw; go_simp <;> with_reducible rfl
          simp only [Act.put, List.setIfInBounds_toArray, List.set_cons_zero, List.set_cons_succ, List.getElem_toArray, List.getElem_cons_zero, List.getElem_cons_succ]
          refine wpAnyH_take (i := 5) (v := ?_) rfl (by kernel_rfl) (by kernel_rfl) (by kernel_rfl) (fun _ _ _ h => h) (Or.inl ⟨by rfl, ?_⟩) (by assumption) ?_
          rotate_left
          · intro w_ hSw; (try dsimp only at hSw); have q0_ := cell_on Q0.out hSw; have q1_ := cell_on Q1.out hSw; have q2_ := cell_on Q2.out hSw; have q3_ := cell_on Q3.out hSw; have q4_ := cell_on Q4.out hSw; have q5_ := cell_on Q5.out hSw; have q6_ := cell_on Q6.out hSw; go_simp <;> with_reducible rfl
          simp only [Act.put, List.setIfInBounds_toArray, List.set_cons_zero, List.set_cons_succ, List.getElem_toArray, List.getElem_cons_zero, List.getElem_cons_succ]
          refine wpAnyH_take (i := 6) (v := ?_) rfl (by kernel_rfl) (by kernel_rfl) (by kernel_rfl) (fun _ _ _ h => h) (Or.inl ⟨by rfl, ?_⟩) (by assumption) ?_
          rotate_left
          · intro w_ hSw; (try dsimp only at hSw); have q0_ := cell_on Q0.out hSw; have q1_ := cell_on Q1.out hSw; have q2_ := cell_on Q2.out hSw; have q3_ := cell_on Q3.out hSw; have q4_ := cell_on Q4.out hSw; have q5_ := cell_on Q5.out hSw; have q6_ := cell_on Q6.out hSw; go_simp <;> with_reducible rfl
          simp only [Act.put, List.setIfInBounds_toArray, List.set_cons_zero, List.set_cons_succ, List.getElem_toArray, List.getElem_cons_zero, List.getElem_cons_succ]
          refine wpAnyH_named (fun a0 ha0 => ?_)
          have HA0 : Hid (a0 = _) := ha0
          clear ha0
          refine main_go1 (L := (fun xb => #[true, true, true, true, true, true, true, false, false, false, false, xb, false, false])) (St := (fun xb a w => ∃ (vx : Value), a = (a0.put (some 8) vx) ∧ VB wr xb vx w zLi)) (K := 6) ?h (by kernel_rfl) (by decide) (by assumption) ⟨a0.tmps.getD 8 undef, (by simp only [put_self]), VB.no _ _ _ _⟩
          case h =>
            refine stage1 (i1 := 11) (c := 7) (fun xb => #[true, true, true, true, true, true, true, false, false, false, false, xb, false, false]) (fun xb => #[true, true, true, true, true, true, true, true, false, false, false, xb, false, false]) (fun xb a w => ∃ (vx : Value), a = (a0.put (some 8) vx) ∧ VB wr xb vx w zLi) (fun xb a w => ∃ (vx : Value) (qs : Option Addr) (cs : Nat), a = ((a0.put (some 40) (.tuple #[.agg #[.slice qs (n + 1) cs], .int .i64 0])).put (some 8) vx) ∧ Hid (OwnM w wr.heap.size qs (qL P M (j + 1))) ∧ VB wr xb vx w zLi) 5 ?_ ?_ ?_ ?_ ?_ ?_ ?_
            · intro xb i hi
              cases xb
              · have e_ := mem_kernel (rs := [7, 11]) (by kernel_rfl) hi; (first | (simp at e_ ⊢; done) | (simp at e_ ⊢; omega))
              · have e_ := mem_kernel (rs := [7]) (by kernel_rfl) hi; (first | (simp at e_ ⊢; done) | (simp at e_ ⊢; omega))
            · intro xb; cases xb
              · exact ne_kernel (rs := [7, 11]) (by kernel_rfl) (by simp)
              · exact ne_kernel (rs := [7]) (by kernel_rfl) (by simp)
            · kernel_rfl
            · intro xb; cases xb <;> kernel_rfl
            · rintro a w hSw ⟨vx, rfl, bx⟩
              refine wpOp_step (i := 11) rfl (fun K hK => ?_)
              have HK : Shut _ := hK
              clear hK
              rw [HA0.out]
              simp only [Act.put, List.setIfInBounds_toArray, List.set_cons_zero, List.set_cons_succ]
              go_simp
              exact HK.out _ _ ⟨bel_on (Nat.le_refl _) hSw (al1_b w zLi), _, (by rw [HA0.out]; simp only [Act.put, List.setIfInBounds_toArray, List.set_cons_zero, List.set_cons_succ] <;> (first | with_reducible rfl | rfl)), VB.new hSw⟩
            · rintro xb a w hSw ⟨vx, rfl, bx⟩
              refine wpOp_step (i := 7) rfl (fun K hK => ?_)
              have HK : Shut _ := hK
              clear hK
              rw [HA0.out]
              simp only [Act.put, List.setIfInBounds_toArray, List.set_cons_zero, List.set_cons_succ]
              go_simp
              go_at_call 12
              refine (sendI 1 1 2 (M : Int) 0 x (j : Int) q (qL P M j) n c true (qL P M (j + 1)) (n + 1) 0 HLN.out (by omega) ⟨(fun _ => HPR.out), (fun _ => rfl)⟩ HL2.out HN2.out HC2.out _ (HR.out.on hSw)).mono ?_
              rintro e w9 ⟨qs, cs, rfl, ho9, hb9⟩
              go_wp2_with fail
              exact HK.out _ _ ⟨bel_on (Nat.le_refl _) hSw (hb9), vx, qs, cs, (by rw [HA0.out]; simp only [Act.put, List.setIfInBounds_toArray, List.set_cons_zero, List.set_cons_succ] <;> (first | with_reducible rfl | rfl)), hid (ho9.mono hSw.size), bx.on (hb9)⟩
            refine stage1T (i := 8) rfl (by kernel_rfl) (fun xb => #[true, true, true, true, true, true, true, true, false, false, false, xb, false, false]) (fun xb => #[true, true, true, true, true, true, true, true, true, false, false, xb, false, false]) (fun xb a w => ∃ (vx : Value) (qs : Option Addr) (cs : Nat), a = ((a0.put (some 40) (.tuple #[.agg #[.slice qs (n + 1) cs], .int .i64 0])).put (some 8) vx) ∧ Hid (OwnM w wr.heap.size qs (qL P M (j + 1))) ∧ VB wr xb vx w zLi) (fun xb a w => ∃ (vx : Value) (qs : Option Addr) (cs : Nat), a = (((a0.put (some 40) (.tuple #[.agg #[.slice qs (n + 1) cs], .int .i64 0])).put (some 32) (.tuple #[.agg #[.slice qs (n + 1) cs], .int .i64 0])).put (some 8) vx) ∧ Hid (OwnM w wr.heap.size qs (qL P M (j + 1))) ∧ VB wr xb vx w zLi) 4 ?_ ?_ ?_ ?_ ?_ ?_
            · intro xb; cases xb <;> kernel_rfl
            · intro xb; cases xb <;> kernel_rfl
            · intro xb; cases xb <;> kernel_rfl
            · exact fun _ _ _ _ h => h
            · rintro xb a w hSw ⟨vx, qs, cs, rfl, Hs, bx⟩
              refine ⟨.tuple #[.agg #[.slice qs (n + 1) cs], .int .i64 0], Or.inl ⟨by rw [HA0.out]; rfl, ?_⟩, vx, qs, cs, (by rw [HA0.out]; simp only [Act.put, List.setIfInBounds_toArray, List.set_cons_zero, List.set_cons_succ, List.getElem_toArray, List.getElem_cons_zero, List.getElem_cons_succ]), Hs, bx⟩
              rw [HA0.out]
              simp only [Act.put, List.setIfInBounds_toArray, List.set_cons_zero, List.set_cons_succ]
              intro w hSw; go_simp <;> with_reducible rfl
            refine stage1T (i := 9) rfl (by kernel_rfl) (fun xb => #[true, true, true, true, true, true, true, true, true, false, false, xb, false, false]) (fun xb => #[true, true, true, true, true, true, true, true, true, true, false, xb, false, false]) (fun xb a w => ∃ (vx : Value) (qs : Option Addr) (cs : Nat), a = (((a0.put (some 40) (.tuple #[.agg #[.slice qs (n + 1) cs], .int .i64 0])).put (some 32) (.tuple #[.agg #[.slice qs (n + 1) cs], .int .i64 0])).put (some 8) vx) ∧ Hid (OwnM w wr.heap.size qs (qL P M (j + 1))) ∧ VB wr xb vx w zLi) (fun xb a w => ∃ (vx : Value) (qs : Option Addr) (cs : Nat), a = ((((a0.put (some 40) (.tuple #[.agg #[.slice qs (n + 1) cs], .int .i64 0])).put (some 32) (.tuple #[.agg #[.slice qs (n + 1) cs], .int .i64 0])).put (some 41) (.agg #[.slice qs (n + 1) cs])).put (some 8) vx) ∧ Hid (OwnM w wr.heap.size qs (qL P M (j + 1))) ∧ VB wr xb vx w zLi) 3 ?_ ?_ ?_ ?_ ?_ ?_
            · intro xb; cases xb <;> kernel_rfl
            · intro xb; cases xb <;> kernel_rfl
            · intro xb; cases xb <;> kernel_rfl
            · exact fun _ _ _ _ h => h
            · rintro xb a w hSw ⟨vx, qs, cs, rfl, Hs, bx⟩
              refine ⟨.agg #[.slice qs (n + 1) cs], Or.inl ⟨by rw [HA0.out]; rfl, ?_⟩, vx, qs, cs, (by rw [HA0.out]; simp only [Act.put, List.setIfInBounds_toArray, List.set_cons_zero, List.set_cons_succ, List.getElem_toArray, List.getElem_cons_zero, List.getElem_cons_succ]), Hs, bx⟩
              rw [HA0.out]
              simp only [Act.put, List.setIfInBounds_toArray, List.set_cons_zero, List.set_cons_succ]
              intro w hSw; go_simp <;> with_reducible rfl
            refine stage1T (i := 10) rfl (by kernel_rfl) (fun xb => #[true, true, true, true, true, true, true, true, true, true, false, xb, false, false]) (fun xb => #[true, true, true, true, true, true, true, true, true, true, true, xb, false, false]) (fun xb a w => ∃ (vx : Value) (qs : Option Addr) (cs : Nat), a = ((((a0.put (some 40) (.tuple #[.agg #[.slice qs (n + 1) cs], .int .i64 0])).put (some 32) (.tuple #[.agg #[.slice qs (n + 1) cs], .int .i64 0])).put (some 41) (.agg #[.slice qs (n + 1) cs])).put (some 8) vx) ∧ Hid (OwnM w wr.heap.size qs (qL P M (j + 1))) ∧ VB wr xb vx w zLi) (fun xb a w => ∃ (vx : Value) (qs : Option Addr) (cs : Nat), a = (((((a0.put (some 40) (.tuple #[.agg #[.slice qs (n + 1) cs], .int .i64 0])).put (some 32) (.tuple #[.agg #[.slice qs (n + 1) cs], .int .i64 0])).put (some 41) (.agg #[.slice qs (n + 1) cs])).put (some 42) (.int .i64 0)).put (some 8) vx) ∧ Hid (OwnM w wr.heap.size qs (qL P M (j + 1))) ∧ VB wr xb vx w zLi) 2 ?_ ?_ ?_ ?_ ?_ ?_
            · intro xb; cases xb <;> kernel_rfl
            · intro xb; cases xb <;> kernel_rfl
            · intro xb; cases xb <;> kernel_rfl
            · exact fun _ _ _ _ h => h
            · rintro xb a w hSw ⟨vx, qs, cs, rfl, Hs, bx⟩
              refine ⟨.int .i64 0, Or.inl ⟨by rw [HA0.out]; rfl, ?_⟩, vx, qs, cs, (by rw [HA0.out]; simp only [Act.put, List.setIfInBounds_toArray, List.set_cons_zero, List.set_cons_succ, List.getElem_toArray, List.getElem_cons_zero, List.getElem_cons_succ]), Hs, bx⟩
              rw [HA0.out]
              simp only [Act.put, List.setIfInBounds_toArray, List.set_cons_zero, List.set_cons_succ]
              intro w hSw; go_simp <;> with_reducible rfl
            refine stage1e (i1 := 11) (fun xb => #[true, true, true, true, true, true, true, true, true, true, true, xb, false, false]) (fun xb a w => ∃ (vx : Value) (qs : Option Addr) (cs : Nat), a = (((((a0.put (some 40) (.tuple #[.agg #[.slice qs (n + 1) cs], .int .i64 0])).put (some 32) (.tuple #[.agg #[.slice qs (n + 1) cs], .int .i64 0])).put (some 41) (.agg #[.slice qs (n + 1) cs])).put (some 42) (.int .i64 0)).put (some 8) vx) ∧ Hid (OwnM w wr.heap.size qs (qL P M (j + 1))) ∧ VB wr xb vx w zLi) 2 ?_ ?_ ?_ ?_ ?_
            · intro i hi; have e_ := mem_kernel (rs := [11]) (by kernel_rfl) hi; simpa using e_
            · exact ne_kernel (rs := [11]) (by kernel_rfl) (by simp)
            · kernel_rfl
            · rintro a w hSw ⟨vx, qs, cs, rfl, Hs, bx⟩
              refine wpOp_step (i := 11) rfl (fun K hK => ?_)
              have HK : Shut _ := hK
              clear hK
              rw [HA0.out]
              simp only [Act.put, List.setIfInBounds_toArray, List.set_cons_zero, List.set_cons_succ]
              go_simp
              exact HK.out _ _ ⟨bel_on (Nat.le_refl _) hSw (al1_b w zLi), _, qs, cs, (by rw [HA0.out]; simp only [Act.put, List.setIfInBounds_toArray, List.set_cons_zero, List.set_cons_succ] <;> (first | with_reducible rfl | rfl)), hid (Hs.out.on (al1_b w zLi)), VB.new hSw⟩
            · rintro fu a w hf hSw ⟨vx, qs, cs, rfl, Hs, bx⟩
              obtain ⟨f2, rfl⟩ : ∃ f2, fu = f2 + 2 := ⟨fu - 2, by omega⟩
              obtain ⟨b1, rfl, hz1, l1⟩ := bx rfl
              have kz1 := row1_cells hz1
              rw [HA0.out]
              simp only [Act.put, List.setIfInBounds_toArray, List.set_cons_zero, List.set_cons_succ]
              refine wpAnyH_ready (rs := [12]) (by kernel_rfl) (by simp) ?_
              refine AllReadyH.cons rfl (fun K hK => ?_) AllReadyH.nil
              go_simp
              refine hK.out _ _ ?_ (fun hHeld2 => ?_)
              · exact (Below.setCell hSw l1 _)
              clear hK K
              try simp only [List.setIfInBounds_toArray, List.set_cons_zero, List.set_cons_succ]
              refine wpAnyH_take (i := 13) (v := ?_) rfl (by kernel_rfl) (by kernel_rfl) (by kernel_rfl) (fun _ _ _ h => h) (Or.inl ⟨by rfl, ?_⟩) (by assumption) ?_
              rotate_left
              · intro w_ hSw2; (try dsimp only at hSw2); go_simp <;> with_reducible rfl
              try simp only [Act.put, List.setIfInBounds_toArray, List.set_cons_zero, List.set_cons_succ, List.getElem_toArray, List.getElem_cons_zero, List.getElem_cons_succ]
              clear hHeld2
              refine wpAnyH_done (by kernel_rfl) ?_ _
              (try go_wp2_with fail)
              go_meet
              refine ⟨b1, qs, cs, rfl, rfl, hid ?_⟩
              with_reducible exact out_put hz1 Hs.out l1 hSw
        case rest =>
        rename World => w9
        obtain ⟨b9, q9, c9, rfl, rfl, HO9⟩ := hcut
        clear Q0 Q1 Q2 Q3 Q4 Q5 Q6 HL2 HC2 HN2 HLN
        have HB9 : Hid (Below wr.heap.size wr w9) := HO9.out.2.2.2
        have HQ9 : Hid (_ = _) := row_on HQ.out HB9.out
        have HV9 : Hid (_ = _) := row_on HV.out HB9.out
        have HY9 : Hid (Below w1.heap.size w1 w9) := hid (bel_on (Nat.le_refl _) HY.out HB9.out)
        have hne : b9 ≠ w1.heap.size + 1 := by have := HO9.out.2.2.1; have := row_lt HV.out; omega
        have hne2 : w1.heap.size + 1 ≠ b9 := fun e => hne e.symm
        have kQ := box5_cells HQ9.out
        have kV := row1_cells HV9.out
        have kO := row1_cells HO9.out.1
        have HVn : Hid ((w9.setCell ⟨w1.heap.size + 1, 0, none⟩ (.slice q9 (n + 1) c9)).heap[w1.heap.size + 1]? = some (.cells #[(.slice q9 (n + 1) c9)] 30)) := set_one HV9.out
        have HRn : Hid (RdR (w9.setCell ⟨w1.heap.size + 1, 0, none⟩ (.slice q9 (n + 1) c9)) q9 (qL P M (j + 1))) := hid (OwnM.put HO9.out.2.1 HV9.out (by decide)).rd
        have HQn : Hid ((w9.setCell ⟨w1.heap.size + 1, 0, none⟩ (.slice q9 (n + 1) c9)).heap[w1.heap.size]? = some (.cells #[.int .i64 1, .int .i64 1, .int .i64 2, .int .i64 (M : Int), .int .i64 0] 33)) := set_other HQ9.out (by omega)
        have HYn : Hid (Below w1.heap.size w1 (w9.setCell ⟨w1.heap.size + 1, 0, none⟩ (.slice q9 (n + 1) c9))) := HY9.out.setCell (by simp) _
        have hjm : (j : Int) < (M : Int) := by omega
        clear HO9 HB9 HV HR HQ HY HV9 HQ9 HY9 i0 i1 i2
        go_wp2
        go_roundg (gk - 1)
        case measure => omega
        case rel => exact ⟨j + 1, n + 1, by omega, by go_num, by go_num, by have := HN.out; show Hid (_ = _); exact (show _ = _ by omega), q9, c9, HVn, HRn, HQn, HYn⟩
      · have hL2 : sendL true 1 (M : Int) (qL P M j) x (j : Int) = (qL P M (j + 1)) := by unfold sendL; rw [if_pos rfl, if_neg (by decide), if_neg (by rw [qL_len]; omega)]; exact qL_no P M j hm
        have hC2 : sendC true 1 (M : Int) n = 1 := by unfold sendC; rw [if_pos rfl, if_neg (by decide), if_neg (by have := HN.out; omega)]
        have hN2 : (qL P M (j + 1)).length = n := by rw [qL_len]; have := HN.out; omega
        have HL2 : Hid (_ = _) := hL2
        have HC2 : Hid (_ = _) := hC2
        have HN2 : Hid (_ = _) := hN2
        clear hL2 hC2 hN2
        have Q0 : Hid (wr.cell? ⟨w1.heap.size, 0, none⟩ = some (.int .i64 1)) := (box5_cells HQ.out).1.1
        have Q1 : Hid (wr.cell? ⟨w1.heap.size, 1, none⟩ = some (.int .i64 1)) := (box5_cells HQ.out).1.2.1
        have Q2 : Hid (wr.cell? ⟨w1.heap.size, 2, none⟩ = some (.int .i64 2)) := (box5_cells HQ.out).1.2.2.1
        have Q3 : Hid (wr.cell? ⟨w1.heap.size, 3, none⟩ = some (.int .i64 (M : Int))) := (box5_cells HQ.out).1.2.2.2.1
        have Q4 : Hid (wr.cell? ⟨w1.heap.size, 4, none⟩ = some (.int .i64 0)) := (box5_cells HQ.out).1.2.2.2.2
        have Q5 : Hid (wr.cell? ⟨w1.heap.size + 1, 0, none⟩ = some (.slice q n c)) := (row1_cells HV.out).1
        have Q6 : Hid (wr.cell? ⟨gp, j, none⟩ = some (.int .i64 x)) := hid (cell_on HPX.out HY.out)
        have i0 : (0 : Int) ≤ (j : Int) := by omega
        have i1 : (j : Int) < 12 := by omega
        have i2 : j < 12 := by omega
        have hd8 : decide ((j : Int) < 8) = true := decide_eq_true (by omega)
        go_wp2_with fail
        clear hd8
        go_cut [8, 9] (fun o1 o2 wc => ∃ (b1 : Nat) (qs : Option Addr) (cs : Nat), o1 = .pointer (some ⟨b1, 0, none⟩) ∧ o2 = .int .i64 1 ∧ Hid (OutL wr wc b1 qs n cs (qL P M (j + 1))))
        case first =>
          refine wp_region_held_drew (S := fun w' => Below wr.heap.size wr w') (by kernel_rfl) (Below.refl _ _).drew (fun hHeld => ?_)
          refine wpAnyH_take (i := 0) (v := ?_) rfl (by kernel_rfl) (by kernel_rfl) (by kernel_rfl) (fun _ _ _ h => h) (Or.inl ⟨by rfl, ?_⟩) (by assumption) ?_
          rotate_left
          · intro w_ hSw; (try dsimp only at hSw); have q0_ := cell_on Q0.out hSw; have q1_ := cell_on Q1.out hSw; have q2_ := cell_on Q2.out hSw; have q3_ := cell_on Q3.out hSw; have q4_ := cell_on Q4.out hSw; have q5_ := cell_on Q5.out hSw; have q6_ := cell_on Q6.out hSw; go_simp <;> with_reducible rfl
          simp only [Act.put, List.setIfInBounds_toArray, List.set_cons_zero, List.set_cons_succ, List.getElem_toArray, List.getElem_cons_zero]
          refine wpAnyH_take (i := 1) (v := ?_) rfl (by kernel_rfl) (by kernel_rfl) (by kernel_rfl) (fun _ _ _ h => h) (Or.inl ⟨by rfl, ?_⟩) (by assumption) ?_
          rotate_left
          · intro w_ hSw; (try dsimp only at hSw); have q0_ := cell_on Q0.out hSw; have q1_ := cell_on Q1.out hSw; have q2_ := cell_on Q2.out hSw; have q3_ := cell_on Q3.out hSw; have q4_ := cell_on Q4.out hSw; have q5_ := cell_on Q5.out hSw; have q6_ := cell_on Q6.out hSw; go_simp <;> with_reducible rfl
          simp only [Act.put, List.setIfInBounds_toArray, List.set_cons_zero, List.set_cons_succ, List.getElem_toArray, List.getElem_cons_zero, List.getElem_cons_succ]
          refine wpAnyH_take (i := 2) (v := ?_) rfl (by kernel_rfl) (by kernel_rfl) (by kernel_rfl) (fun _ _ _ h => h) (Or.inl ⟨by rfl, ?_⟩) (by assumption) ?_
          rotate_left
          · intro w_ hSw; (try dsimp only at hSw); have q0_ := cell_on Q0.out hSw; have q1_ := cell_on Q1.out hSw; have q2_ := cell_on Q2.out hSw; have q3_ := cell_on Q3.out hSw; have q4_ := cell_on Q4.out hSw; have q5_ := cell_on Q5.out hSw; have q6_ := cell_on Q6.out hSw; go_simp <;> with_reducible rfl
          simp only [Act.put, List.setIfInBounds_toArray, List.set_cons_zero, List.set_cons_succ, List.getElem_toArray, List.getElem_cons_zero, List.getElem_cons_succ]
          refine wpAnyH_take (i := 3) (v := ?_) rfl (by kernel_rfl) (by kernel_rfl) (by kernel_rfl) (fun _ _ _ h => h) (Or.inl ⟨by rfl, ?_⟩) (by assumption) ?_
          rotate_left
          · intro w_ hSw; (try dsimp only at hSw); have q0_ := cell_on Q0.out hSw; have q1_ := cell_on Q1.out hSw; have q2_ := cell_on Q2.out hSw; have q3_ := cell_on Q3.out hSw; have q4_ := cell_on Q4.out hSw; have q5_ := cell_on Q5.out hSw; have q6_ := cell_on Q6.out hSw; go_simp <;> with_reducible rfl
          simp only [Act.put, List.setIfInBounds_toArray, List.set_cons_zero, List.set_cons_succ, List.getElem_toArray, List.getElem_cons_zero, List.getElem_cons_succ]
          refine wpAnyH_take (i := 4) (v := ?_) rfl (by kernel_rfl) (by kernel_rfl) (by kernel_rfl) (fun _ _ _ h => h) (Or.inl ⟨by rfl, ?_⟩) (by assumption) ?_
          rotate_left
          · intro w_ hSw; (try dsimp only at hSw); have q0_ := cell_on Q0.out hSw; have q1_ := cell_on Q1.out hSw; have q2_ := cell_on Q2.out hSw; have q3_ := cell_on Q3.out hSw; have q4_ := cell_on Q4.out hSw; have q5_ := cell_on Q5.out hSw; have q6_ := cell_on Q6.out hSw; go_simp <;> with_reducible rfl
          simp only [Act.put, List.setIfInBounds_toArray, List.set_cons_zero, List.set_cons_succ, List.getElem_toArray, List.getElem_cons_zero, List.getElem_cons_succ]
          refine wpAnyH_take (i := 5) (v := ?_) rfl (by kernel_rfl) (by kernel_rfl) (by kernel_rfl) (fun _ _ _ h => h) (Or.inl ⟨by rfl, ?_⟩) (by assumption) ?_
          rotate_left
          · intro w_ hSw; (try dsimp only at hSw); have q0_ := cell_on Q0.out hSw; have q1_ := cell_on Q1.out hSw; have q2_ := cell_on Q2.out hSw; have q3_ := cell_on Q3.out hSw; have q4_ := cell_on Q4.out hSw; have q5_ := cell_on Q5.out hSw; have q6_ := cell_on Q6.out hSw; go_simp <;> with_reducible rfl
          simp only [Act.put, List.setIfInBounds_toArray, List.set_cons_zero, List.set_cons_succ, List.getElem_toArray, List.getElem_cons_zero, List.getElem_cons_succ]
          refine wpAnyH_take (i := 6) (v := ?_) rfl (by kernel_rfl) (by kernel_rfl) (by kernel_rfl) (fun _ _ _ h => h) (Or.inl ⟨by rfl, ?_⟩) (by assumption) ?_
          rotate_left
          · intro w_ hSw; (try dsimp only at hSw); have q0_ := cell_on Q0.out hSw; have q1_ := cell_on Q1.out hSw; have q2_ := cell_on Q2.out hSw; have q3_ := cell_on Q3.out hSw; have q4_ := cell_on Q4.out hSw; have q5_ := cell_on Q5.out hSw; have q6_ := cell_on Q6.out hSw; go_simp <;> with_reducible rfl
          simp only [Act.put, List.setIfInBounds_toArray, List.set_cons_zero, List.set_cons_succ, List.getElem_toArray, List.getElem_cons_zero, List.getElem_cons_succ]
          refine wpAnyH_named (fun a0 ha0 => ?_)
          have HA0 : Hid (a0 = _) := ha0
          clear ha0
          refine main_go1 (L := (fun xb => #[true, true, true, true, true, true, true, false, false, false, false, xb, false, false])) (St := (fun xb a w => ∃ (vx : Value), a = (a0.put (some 8) vx) ∧ VB wr xb vx w zLi)) (K := 6) ?h (by kernel_rfl) (by decide) (by assumption) ⟨a0.tmps.getD 8 undef, (by simp only [put_self]), VB.no _ _ _ _⟩
          case h =>
            refine stage1 (i1 := 11) (c := 7) (fun xb => #[true, true, true, true, true, true, true, false, false, false, false, xb, false, false]) (fun xb => #[true, true, true, true, true, true, true, true, false, false, false, xb, false, false]) (fun xb a w => ∃ (vx : Value), a = (a0.put (some 8) vx) ∧ VB wr xb vx w zLi) (fun xb a w => ∃ (vx : Value) (qs : Option Addr) (cs : Nat), a = ((a0.put (some 40) (.tuple #[.agg #[.slice qs n cs], .int .i64 1])).put (some 8) vx) ∧ Hid (OwnM w wr.heap.size qs (qL P M (j + 1))) ∧ VB wr xb vx w zLi) 5 ?_ ?_ ?_ ?_ ?_ ?_ ?_
            · intro xb i hi
              cases xb
              · have e_ := mem_kernel (rs := [7, 11]) (by kernel_rfl) hi; (first | (simp at e_ ⊢; done) | (simp at e_ ⊢; omega))
              · have e_ := mem_kernel (rs := [7]) (by kernel_rfl) hi; (first | (simp at e_ ⊢; done) | (simp at e_ ⊢; omega))
            · intro xb; cases xb
              · exact ne_kernel (rs := [7, 11]) (by kernel_rfl) (by simp)
              · exact ne_kernel (rs := [7]) (by kernel_rfl) (by simp)
            · kernel_rfl
            · intro xb; cases xb <;> kernel_rfl
            · rintro a w hSw ⟨vx, rfl, bx⟩
              refine wpOp_step (i := 11) rfl (fun K hK => ?_)
              have HK : Shut _ := hK
              clear hK
              rw [HA0.out]
              simp only [Act.put, List.setIfInBounds_toArray, List.set_cons_zero, List.set_cons_succ]
              go_simp
              exact HK.out _ _ ⟨bel_on (Nat.le_refl _) hSw (al1_b w zLi), _, (by rw [HA0.out]; simp only [Act.put, List.setIfInBounds_toArray, List.set_cons_zero, List.set_cons_succ] <;> (first | with_reducible rfl | rfl)), VB.new hSw⟩
            · rintro xb a w hSw ⟨vx, rfl, bx⟩
              refine wpOp_step (i := 7) rfl (fun K hK => ?_)
              have HK : Shut _ := hK
              clear hK
              rw [HA0.out]
              simp only [Act.put, List.setIfInBounds_toArray, List.set_cons_zero, List.set_cons_succ]
              go_simp
              go_at_call 12
              refine (sendI 1 1 2 (M : Int) 0 x (j : Int) q (qL P M j) n c true (qL P M (j + 1)) n 1 HLN.out (by omega) ⟨(fun _ => HPR.out), (fun _ => rfl)⟩ HL2.out HN2.out HC2.out _ (HR.out.on hSw)).mono ?_
              rintro e w9 ⟨qs, cs, rfl, ho9, hb9⟩
              go_wp2_with fail
              exact HK.out _ _ ⟨bel_on (Nat.le_refl _) hSw (hb9), vx, qs, cs, (by rw [HA0.out]; simp only [Act.put, List.setIfInBounds_toArray, List.set_cons_zero, List.set_cons_succ] <;> (first | with_reducible rfl | rfl)), hid (ho9.mono hSw.size), bx.on (hb9)⟩
            refine stage1T (i := 8) rfl (by kernel_rfl) (fun xb => #[true, true, true, true, true, true, true, true, false, false, false, xb, false, false]) (fun xb => #[true, true, true, true, true, true, true, true, true, false, false, xb, false, false]) (fun xb a w => ∃ (vx : Value) (qs : Option Addr) (cs : Nat), a = ((a0.put (some 40) (.tuple #[.agg #[.slice qs n cs], .int .i64 1])).put (some 8) vx) ∧ Hid (OwnM w wr.heap.size qs (qL P M (j + 1))) ∧ VB wr xb vx w zLi) (fun xb a w => ∃ (vx : Value) (qs : Option Addr) (cs : Nat), a = (((a0.put (some 40) (.tuple #[.agg #[.slice qs n cs], .int .i64 1])).put (some 32) (.tuple #[.agg #[.slice qs n cs], .int .i64 1])).put (some 8) vx) ∧ Hid (OwnM w wr.heap.size qs (qL P M (j + 1))) ∧ VB wr xb vx w zLi) 4 ?_ ?_ ?_ ?_ ?_ ?_
            · intro xb; cases xb <;> kernel_rfl
            · intro xb; cases xb <;> kernel_rfl
            · intro xb; cases xb <;> kernel_rfl
            · exact fun _ _ _ _ h => h
            · rintro xb a w hSw ⟨vx, qs, cs, rfl, Hs, bx⟩
              refine ⟨.tuple #[.agg #[.slice qs n cs], .int .i64 1], Or.inl ⟨by rw [HA0.out]; rfl, ?_⟩, vx, qs, cs, (by rw [HA0.out]; simp only [Act.put, List.setIfInBounds_toArray, List.set_cons_zero, List.set_cons_succ, List.getElem_toArray, List.getElem_cons_zero, List.getElem_cons_succ]), Hs, bx⟩
              rw [HA0.out]
              simp only [Act.put, List.setIfInBounds_toArray, List.set_cons_zero, List.set_cons_succ]
              intro w hSw; go_simp <;> with_reducible rfl
            refine stage1T (i := 9) rfl (by kernel_rfl) (fun xb => #[true, true, true, true, true, true, true, true, true, false, false, xb, false, false]) (fun xb => #[true, true, true, true, true, true, true, true, true, true, false, xb, false, false]) (fun xb a w => ∃ (vx : Value) (qs : Option Addr) (cs : Nat), a = (((a0.put (some 40) (.tuple #[.agg #[.slice qs n cs], .int .i64 1])).put (some 32) (.tuple #[.agg #[.slice qs n cs], .int .i64 1])).put (some 8) vx) ∧ Hid (OwnM w wr.heap.size qs (qL P M (j + 1))) ∧ VB wr xb vx w zLi) (fun xb a w => ∃ (vx : Value) (qs : Option Addr) (cs : Nat), a = ((((a0.put (some 40) (.tuple #[.agg #[.slice qs n cs], .int .i64 1])).put (some 32) (.tuple #[.agg #[.slice qs n cs], .int .i64 1])).put (some 41) (.agg #[.slice qs n cs])).put (some 8) vx) ∧ Hid (OwnM w wr.heap.size qs (qL P M (j + 1))) ∧ VB wr xb vx w zLi) 3 ?_ ?_ ?_ ?_ ?_ ?_
            · intro xb; cases xb <;> kernel_rfl
            · intro xb; cases xb <;> kernel_rfl
            · intro xb; cases xb <;> kernel_rfl
            · exact fun _ _ _ _ h => h
            · rintro xb a w hSw ⟨vx, qs, cs, rfl, Hs, bx⟩
              refine ⟨.agg #[.slice qs n cs], Or.inl ⟨by rw [HA0.out]; rfl, ?_⟩, vx, qs, cs, (by rw [HA0.out]; simp only [Act.put, List.setIfInBounds_toArray, List.set_cons_zero, List.set_cons_succ, List.getElem_toArray, List.getElem_cons_zero, List.getElem_cons_succ]), Hs, bx⟩
              rw [HA0.out]
              simp only [Act.put, List.setIfInBounds_toArray, List.set_cons_zero, List.set_cons_succ]
              intro w hSw; go_simp <;> with_reducible rfl
            refine stage1T (i := 10) rfl (by kernel_rfl) (fun xb => #[true, true, true, true, true, true, true, true, true, true, false, xb, false, false]) (fun xb => #[true, true, true, true, true, true, true, true, true, true, true, xb, false, false]) (fun xb a w => ∃ (vx : Value) (qs : Option Addr) (cs : Nat), a = ((((a0.put (some 40) (.tuple #[.agg #[.slice qs n cs], .int .i64 1])).put (some 32) (.tuple #[.agg #[.slice qs n cs], .int .i64 1])).put (some 41) (.agg #[.slice qs n cs])).put (some 8) vx) ∧ Hid (OwnM w wr.heap.size qs (qL P M (j + 1))) ∧ VB wr xb vx w zLi) (fun xb a w => ∃ (vx : Value) (qs : Option Addr) (cs : Nat), a = (((((a0.put (some 40) (.tuple #[.agg #[.slice qs n cs], .int .i64 1])).put (some 32) (.tuple #[.agg #[.slice qs n cs], .int .i64 1])).put (some 41) (.agg #[.slice qs n cs])).put (some 42) (.int .i64 1)).put (some 8) vx) ∧ Hid (OwnM w wr.heap.size qs (qL P M (j + 1))) ∧ VB wr xb vx w zLi) 2 ?_ ?_ ?_ ?_ ?_ ?_
            · intro xb; cases xb <;> kernel_rfl
            · intro xb; cases xb <;> kernel_rfl
            · intro xb; cases xb <;> kernel_rfl
            · exact fun _ _ _ _ h => h
            · rintro xb a w hSw ⟨vx, qs, cs, rfl, Hs, bx⟩
              refine ⟨.int .i64 1, Or.inl ⟨by rw [HA0.out]; rfl, ?_⟩, vx, qs, cs, (by rw [HA0.out]; simp only [Act.put, List.setIfInBounds_toArray, List.set_cons_zero, List.set_cons_succ, List.getElem_toArray, List.getElem_cons_zero, List.getElem_cons_succ]), Hs, bx⟩
              rw [HA0.out]
              simp only [Act.put, List.setIfInBounds_toArray, List.set_cons_zero, List.set_cons_succ]
              intro w hSw; go_simp <;> with_reducible rfl
            refine stage1e (i1 := 11) (fun xb => #[true, true, true, true, true, true, true, true, true, true, true, xb, false, false]) (fun xb a w => ∃ (vx : Value) (qs : Option Addr) (cs : Nat), a = (((((a0.put (some 40) (.tuple #[.agg #[.slice qs n cs], .int .i64 1])).put (some 32) (.tuple #[.agg #[.slice qs n cs], .int .i64 1])).put (some 41) (.agg #[.slice qs n cs])).put (some 42) (.int .i64 1)).put (some 8) vx) ∧ Hid (OwnM w wr.heap.size qs (qL P M (j + 1))) ∧ VB wr xb vx w zLi) 2 ?_ ?_ ?_ ?_ ?_
            · intro i hi; have e_ := mem_kernel (rs := [11]) (by kernel_rfl) hi; simpa using e_
            · exact ne_kernel (rs := [11]) (by kernel_rfl) (by simp)
            · kernel_rfl
            · rintro a w hSw ⟨vx, qs, cs, rfl, Hs, bx⟩
              refine wpOp_step (i := 11) rfl (fun K hK => ?_)
              have HK : Shut _ := hK
              clear hK
              rw [HA0.out]
              simp only [Act.put, List.setIfInBounds_toArray, List.set_cons_zero, List.set_cons_succ]
              go_simp
              exact HK.out _ _ ⟨bel_on (Nat.le_refl _) hSw (al1_b w zLi), _, qs, cs, (by rw [HA0.out]; simp only [Act.put, List.setIfInBounds_toArray, List.set_cons_zero, List.set_cons_succ] <;> (first | with_reducible rfl | rfl)), hid (Hs.out.on (al1_b w zLi)), VB.new hSw⟩
            · rintro fu a w hf hSw ⟨vx, qs, cs, rfl, Hs, bx⟩
              obtain ⟨f2, rfl⟩ : ∃ f2, fu = f2 + 2 := ⟨fu - 2, by omega⟩
              obtain ⟨b1, rfl, hz1, l1⟩ := bx rfl
              have kz1 := row1_cells hz1
              rw [HA0.out]
              simp only [Act.put, List.setIfInBounds_toArray, List.set_cons_zero, List.set_cons_succ]
              refine wpAnyH_ready (rs := [12]) (by kernel_rfl) (by simp) ?_
              refine AllReadyH.cons rfl (fun K hK => ?_) AllReadyH.nil
              go_simp
              refine hK.out _ _ ?_ (fun hHeld2 => ?_)
              · exact (Below.setCell hSw l1 _)
              clear hK K
              try simp only [List.setIfInBounds_toArray, List.set_cons_zero, List.set_cons_succ]
              refine wpAnyH_take (i := 13) (v := ?_) rfl (by kernel_rfl) (by kernel_rfl) (by kernel_rfl) (fun _ _ _ h => h) (Or.inl ⟨by rfl, ?_⟩) (by assumption) ?_
              rotate_left
              · intro w_ hSw2; (try dsimp only at hSw2); go_simp <;> with_reducible rfl
              try simp only [Act.put, List.setIfInBounds_toArray, List.set_cons_zero, List.set_cons_succ, List.getElem_toArray, List.getElem_cons_zero, List.getElem_cons_succ]
              clear hHeld2
              refine wpAnyH_done (by kernel_rfl) ?_ _
              (try go_wp2_with fail)
              go_meet
              refine ⟨b1, qs, cs, rfl, rfl, hid ?_⟩
              with_reducible exact out_put hz1 Hs.out l1 hSw
        case rest =>
        rename World => w9
        obtain ⟨b9, q9, c9, rfl, rfl, HO9⟩ := hcut
        clear Q0 Q1 Q2 Q3 Q4 Q5 Q6 HL2 HC2 HN2 HLN
        have HB9 : Hid (Below wr.heap.size wr w9) := HO9.out.2.2.2
        have HQ9 : Hid (_ = _) := row_on HQ.out HB9.out
        have HV9 : Hid (_ = _) := row_on HV.out HB9.out
        have HY9 : Hid (Below w1.heap.size w1 w9) := hid (bel_on (Nat.le_refl _) HY.out HB9.out)
        have hne : b9 ≠ w1.heap.size + 1 := by have := HO9.out.2.2.1; have := row_lt HV.out; omega
        have hne2 : w1.heap.size + 1 ≠ b9 := fun e => hne e.symm
        have kQ := box5_cells HQ9.out
        have kV := row1_cells HV9.out
        have kO := row1_cells HO9.out.1
        have HVn : Hid ((w9.setCell ⟨w1.heap.size + 1, 0, none⟩ (.slice q9 n c9)).heap[w1.heap.size + 1]? = some (.cells #[(.slice q9 n c9)] 30)) := set_one HV9.out
        have HRn : Hid (RdR (w9.setCell ⟨w1.heap.size + 1, 0, none⟩ (.slice q9 n c9)) q9 (qL P M (j + 1))) := hid (OwnM.put HO9.out.2.1 HV9.out (by decide)).rd
        have HQn : Hid ((w9.setCell ⟨w1.heap.size + 1, 0, none⟩ (.slice q9 n c9)).heap[w1.heap.size]? = some (.cells #[.int .i64 1, .int .i64 1, .int .i64 2, .int .i64 (M : Int), .int .i64 0] 33)) := set_other HQ9.out (by omega)
        have HYn : Hid (Below w1.heap.size w1 (w9.setCell ⟨w1.heap.size + 1, 0, none⟩ (.slice q9 n c9))) := HY9.out.setCell (by simp) _
        have hjm : ¬ (j : Int) < (M : Int) := by omega
        clear HO9 HB9 HV HR HQ HY HV9 HQ9 HY9 i0 i1 i2
        go_wp2
        go_roundg (gk - 1)
        case measure => omega
        case rel => exact ⟨j + 1, n, by omega, by go_num, by go_num, by have := HN.out; show Hid (_ = _); exact (show _ = _ by omega), q9, c9, HVn, HRn, HQn, HYn⟩
    · obtain rfl : j = 8 := by omega
      obtain rfl : n = M := by have := HN.out; omega
      clear hlt hj HN hn8
      go_wp2
      go_loopg [10] n (fun gk iv wr => ∃ j : Nat, j + gk = n ∧ iv = .int .i64 (j : Int) ∧ ∃ (q : Option Addr) (c : Nat), Hid (wr.heap[w1.heap.size + 1]? = some (.cells #[.slice q gk c] 30)) ∧ Hid (RdR wr q ((qL P n 8).drop j)) ∧ Hid (wr.heap[w1.heap.size]? = some (.cells #[.int .i64 1, .int .i64 1, .int .i64 2, .int .i64 (n : Int), .int .i64 0] 33)) ∧ Hid (Below w1.heap.size w1 wr))
      case atStart => exact ⟨0, by omega, rfl, q, c, HV, HR, HQ, HY⟩
      case round =>
        clear HV HR HQ HY
        obtain ⟨j, hj, rfl, q, c, HV, HR, HQ, HY⟩ := hrel
        by_cases hlt : j < n
        · obtain ⟨k', rfl⟩ : ∃ k', gk = k' + 1 := ⟨gk - 1, by omega⟩
          obtain ⟨x, hx⟩ : ∃ x, P.getD j 0 = x := ⟨_, rfl⟩
          obtain ⟨T, hT⟩ : ∃ T, (qL P n 8).drop (j + 1) = T := ⟨_, rfl⟩
          have hD : (qL P n 8).drop j = (x, (j : Int)) :: T := by rw [qL_drop P n j hM2 hlt, hx, hT]
          have HR1 : Hid (RdR wr q ((x, (j : Int)) :: T)) := hid (by rw [← hD]; exact HR.out)
          have HTL : Hid (T.length = k') := hid (by rw [← hT, List.length_drop, qL_len]; omega)
          have HIN : Hid (∀ p ∈ (x, (j : Int)) :: T, InI p.2) := hid (by rw [← hD]; exact fun p hp => qL_in P n 8 hM2 p (List.mem_of_mem_drop hp))
          have HTT : Hid ((qL P n 8).drop (j + 1) = T) := hT
          have HPX : Hid (w1.cell? ⟨gp, j, none⟩ = some (.int .i64 x)) := hid (by
            have := HPC.out j (by have := HPL.out; omega)
            rw [this, ← hx]
            simp [List.getD, List.getElem?_eq_getElem (show j < P.length by have := HPL.out; omega)])
          clear hx hT hD HR
          have kQ := box5_cells HQ.out
          have kV := row1_cells HV.out
          go_wp2_with fail
          clear kQ kV
          refine (takeI 1 1 2 (n : Int) 0 99 q ((x, (j : Int)) :: T) (k' + 1) c true T k' x 0 (by have := HTL.out; simp; omega) (by omega) ⟨(fun _ => HPR.out), (fun _ => rfl)⟩ ⟨by decide, by decide⟩ HIN.out (by simp [takeL]) HTL.out (by simp [takeN]) (by simp [takeC]) _ HR1.out).mono ?_
          rintro e w5 ⟨q5, c5, rfl, ho5, hb5⟩
          have HB6 : Hid (Below wr.heap.size wr (w5.alloc (.cells #[.slice q5 k' c5] 30))) := hid (bel_on (Nat.le_refl _) hb5 (al1_b w5 _))
          have HV6 : Hid (_ = _) := row_on HV.out HB6.out
          have HQ6 : Hid (_ = _) := row_on HQ.out HB6.out
          have HY6 : Hid (Below w1.heap.size w1 (w5.alloc (.cells #[.slice q5 k' c5] 30))) := hid (bel_on (Nat.le_refl _) HY.out HB6.out)
          have HO6 : Hid (OwnM (w5.alloc (.cells #[.slice q5 k' c5] 30)) wr.heap.size q5 T) := ho5.on (al1_b w5 _)
          have kp := cell_on HPX.out HY6.out
          have kV := row1_cells HV6.out
          have hne : w5.heap.size ≠ w1.heap.size + 1 := by have := row_lt HV.out; have := hb5.size; omega
          have HVn : Hid (((w5.alloc (.cells #[.slice q5 k' c5] 30)).setCell ⟨w1.heap.size + 1, 0, none⟩ (.slice q5 k' c5)).heap[w1.heap.size + 1]? = some (.cells #[.slice q5 k' c5] 30)) := set_one HV6.out
          have HRn : Hid (RdR ((w5.alloc (.cells #[.slice q5 k' c5] 30)).setCell ⟨w1.heap.size + 1, 0, none⟩ (.slice q5 k' c5)) q5 ((qL P n 8).drop (j + 1))) := hid (by rw [HTT.out]; exact (OwnM.put HO6.out HV6.out (by decide)).rd)
          have HQn : Hid (((w5.alloc (.cells #[.slice q5 k' c5] 30)).setCell ⟨w1.heap.size + 1, 0, none⟩ (.slice q5 k' c5)).heap[w1.heap.size]? = some (.cells #[.int .i64 1, .int .i64 1, .int .i64 2, .int .i64 (n : Int), .int .i64 0] 33)) := set_other HQ6.out (by omega)
          have HYn : Hid (Below w1.heap.size w1 ((w5.alloc (.cells #[.slice q5 k' c5] 30)).setCell ⟨w1.heap.size + 1, 0, none⟩ (.slice q5 k' c5))) := HY6.out.setCell (by simp) _
          have i0 : (0 : Int) ≤ (j : Int) := by omega
          have i1 : (j : Int) < 12 := by omega
          have i2 : j < 12 := by omega
          clear ho5 hb5 HB6 HV6 HQ6 HY6 HO6 HV HQ HY HR1 HTL HIN HTT HPX
          go_wp2
          go_roundg k'
          case measure => omega
          case rel => exact ⟨j + 1, by omega, by go_num, q5, c5, HVn, HRn, HQn, HYn⟩
        · obtain rfl : j = n := by omega
          obtain rfl : gk = 0 := by omega
          have HRE : Hid (RdR wr q []) := fun h => by simp at h
          clear HR hlt hj
          have kQ := box5_cells HQ.out
          have kV := row1_cells HV.out
          go_wp2_with fail
          clear kQ kV
          refine (takeI 1 1 2 (j : Int) 0 99 q [] 0 c true [] 0 0 2 rfl (by decide) ⟨(fun _ => HPR.out), (fun _ => rfl)⟩ ⟨by decide, by decide⟩ (by simp) (by simp [takeL]) rfl (by simp [takeN]) (by simp [takeC]) _ HRE.out).mono ?_
          rintro e w5 ⟨q5, c5, rfl, ho5, hb5⟩
          have HB6 : Hid (Below wr.heap.size wr (w5.alloc (.cells #[.slice q5 0 c5] 30))) := hid (bel_on (Nat.le_refl _) hb5 (al1_b w5 _))
          have HQ6 : Hid (_ = _) := row_on HQ.out HB6.out
          have HY6 : Hid (Below w1.heap.size w1 (w5.alloc (.cells #[.slice q5 0 c5] 30))) := hid (bel_on (Nat.le_refl _) HY.out HB6.out)
          have kQ := box5_cells HQ6.out
          clear ho5 hb5 HB6 HV HQ HY HRE
          go_wp2_with fail
          clear kQ
          refine (portokI 1 1 2 (j : Int) 0 true ⟨(fun _ => HPR.out), (fun _ => rfl)⟩ _).mono ?_
          rintro e w6 ⟨rfl, hb6⟩
          have kQ := box5_cells (row_on HQ6.out hb6)
          have HW6 : Hid (Below w0.heap.size w0 w6) := hid (HW1.out.trans ((bel_on (Nat.le_refl _) HY6.out hb6).mono HW1.out.size))
          clear hb6 HQ6 HY6
          go_wp2
          go_ret
          exact ⟨by simp, HW6.out⟩

theorem walk (a0 : Option Addr) (len0 cap0 : Nat) (z0 : List Int) (w : World) (w0 : IsRow .u8 w a0 len0 cap0 z0) :
    Calls Try.prog 5 #[.slice a0 len0 cap0] w fun e w' => e = .returned (.bool true) ∧ Below w.heap.size w w' := by
  have hlen : len0 ≤ 9223372036854775807 := by
    rcases w0 with ⟨_, h, _⟩ | ⟨x, _, h1, h2, _⟩
    · omega
    · unfold maxLen at h2; omega
  by_cases hb : len0 ≤ 1048576
  · exact queues_in a0 len0 cap0 hb w (code_of_row w0 hb)
  · have hb' : 1048576 < len0 := by omega
    go_enter Try.func5, Try.ntmps5
    go_wp2_with fail
    refine (big5 a0 len0 cap0 hlen _).mono ?_
    rintro e w1 ⟨rfl, rfl⟩
    rw [decide_eq_true (by omega)]
    go_wp2
    go_ret
    exact ⟨rfl, Below.refl _ _⟩

set_option maxRecDepth 100000 in
theorem lifted (os : Os) (started : os.Started) (H : Type) (enc : TypeId × Value → H) :
    ReturnsInHanded {} Try.checked os 5 .any (Rows.fnQueuesSpec.pre6 enc Try.prog Try.f5 Rows.fnQueuesRow.domain false) (Rows.fnQueuesSpec.post enc Try.prog Try.f5 false true false false) := by
  refine returnsInHanded_of_change (C := Try.checked) own started (by kernel_rfl) Try.func5
    (ChangeSpec.witness6 (enc := enc) (C := Try.checked) false ⟨#[], #[.slice none 0 0], []⟩ 8 (by kernel_rfl) (by kernel_rfl) (by kernel_rfl) (by kernel_rfl)) ?_
  intro W base args ds gs before hval0 hW hcnd _
  have hval : ∀ (j : Nat) t v, Try.f5.params[j]? = some t → args[j]? = some v → Value.okWide Try.prog W .any base t v := hval0
  have hW' := hW
  obtain ⟨p, q, hA0, hV, rfl, hfz, hnd⟩ := hW
  have hA : DataW.TrodAll enc Try.prog W 0 (fun _ => true) true Try.f5.params.toList args.toList ds p := hA0
  rw [Try.params5] at hA hval
  obtain ⟨v0, vs0, d0, ds0, p0, q0, hargs, rfl, rfl, h0, r0⟩ := trodAll_cons hA
  obtain ⟨rfl, rfl, rfl⟩ := trodAll_nil r0
  obtain rfl : args = #[v0] := by cases args; simp_all
  obtain ⟨rfl, rfl⟩ := trodVars_none hV
  have k0 := h0
  have lt0 : ∀ x ∈ p0, x.block < W.heap.size := by obtain ⟨m, hm⟩ := k0; exact DataW.trod_lt m _ _ _ hm
  obtain ⟨a0, len0, cap0, z0, rfl, w0⟩ := open_code (hval 0 42 v0 rfl rfl) h0
  clear hA0 hval0
  refine (walk a0 len0 cap0 z0 W w0).mono fun e W' ⟨he, bel⟩ => ?_
  subst he
  exact ⟨_, rfl, _, _, _, [], _, [], hW', trodAll_mk1 (shut_bool Try.underlying4 _), (trodAll_cons_mk (Below.trod laidOut (by kernel_rfl) (of_decide_eq_true (by kernel_rfl)) k0 bel lt0) trodAll_mk0), rfl, bel.frame _, fun h => by cases h⟩

theorem over : Rows.fnQueuesRow.holds Try.pinned (OpenSpec.ofChange Rows.fnQueuesSpec) :=
  OpenClaim.holds_of_wide 5 Try.f5 rfl rfl rfl rfl rfl rfl rfl ⟨rfl, rfl, rfl, rfl, rfl⟩ rfl rfl rfl rfl rfl (by kernel_rfl) Try.func5 (by kernel_rfl)
    (of_decide_eq_true (by kernel_rfl)) (by unfold Func.isWrapper; first | (rw [if_pos (by decide +kernel)]; kernel_rfl) | (rw [if_neg (by decide +kernel)]; exact ⟨rfl, rfl⟩))
    (fun os started H enc _ => lifted os started H enc)

end Go.Proofs.Ytacpoandikheeaa.fnQueues
namespace Go.Proofs.Ytacpoandikheeaa
theorem fnQueues_holds : Rows.FnQueuesSaid :=
  fnQueues.over
#print axioms fnQueues_holds
end Go.Proofs.Ytacpoandikheeaa
