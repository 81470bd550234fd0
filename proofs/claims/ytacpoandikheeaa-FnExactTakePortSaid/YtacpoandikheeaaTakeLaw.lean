/-
  Proved: for every port, line and int the call of FnExactTakePort returns true: TakePort of the program answers as that of the specification, field by field (lines of more than 1048576 messages the law itself lets by), writes into no argument, keeps nothing of one, and its answer owns its memory, behind another call too. No conditions.
-/
import Derived.Test.YtacpoandikheeaaRows
import Derived.Test.YtacpoandikheeaaTakeP
import Derived.Test.YtacpoandikheeaaSpecT8
import Derived.Test.YtacpoandikheeaaStage18
import Derived.Test.YtacpoandikheeaaOpenP
import Derived.OpenShut
import Derived.ShutString
import Derived.ChangeOld
import Derived.Below
import Derived.OpenVars
import Derived.Deep.DeepHandedRow
namespace Go.Proofs.Ytacpoandikheeaa.fnExactTakePort
open Go.ChangeShapes Go.WideShapes Go.ChangeAt Go.RowKit Go.PlainAid
open Go.ChangeMaps (open_string shut_string)
set_option linter.unusedVariables false

theorem own : ownKnob Try.prog.godebug = none := by kernel_rfl
theorem laidOut : laidOutB Try.prog = true := by kernel_rfl

theorem q2_keep {W0 W' : World} {p0 p1 : Addr} {v0 v1 : Value} (h : W0.cell? p0 = some v0 ∧ W0.cell? p1 = some v1) (hB : Below W0.heap.size W0 W') : W'.cell? p0 = some v0 ∧ W'.cell? p1 = some v1 := ⟨cell_on h.1 hB, cell_on h.2 hB⟩
set_option maxRecDepth 100000 in
set_option maxHeartbeats 4000000 in
theorem walk_in (k f t m fr y : Int) (a : Option Addr) (l : List (Int × Int)) (n cap : Nat) (hl : l.length = n) (hn : n ≤ 1048576) (hy : InI y) (hs : ∀ p ∈ l, InI p.2) (w : World) (hr : RdR w a l) :
    Calls Try.prog 4 #[.agg #[.int .i64 k, .int .i64 f, .int .i64 t, .int .i64 m, .int .i64 fr], .agg #[.slice a n cap], .int .i64 y] w fun e w' => e = .returned (.bool true) ∧ Below w.heap.size w w' := by
  obtain ⟨b, hB⟩ := port_bool k f t m fr
  obtain ⟨L, hL⟩ : ∃ L, takeL b k l = L := ⟨_, rfl⟩
  obtain ⟨N, hN⟩ : ∃ N, L.length = N := ⟨_, rfl⟩
  obtain ⟨U, hU⟩ : ∃ U, takeN b l = U := ⟨_, rfl⟩
  obtain ⟨C, hC⟩ : ∃ C, takeC b k fr y l = C := ⟨_, rfl⟩
  have HN1 : Hid (N ≤ 1048576) := hid (by
    rw [← hN, ← hL]
    unfold takeL
    split
    · rw [List.length_tail]; omega
    · omega)
  have HPB : Hid (b = true ↔ PortR k f t m fr) := hB
  have HLL : Hid (takeL b k l = L) := hL
  have HNN : Hid (L.length = N) := hN
  have HUU : Hid (takeN b l = U) := hU
  have HCC : Hid (takeC b k fr y l = C) := hC
  have HYI : Hid (InI y) := hy
  have HSI : Hid (∀ p ∈ l, InI p.2) := hs
  have HR : Hid (RdR w a l) := hr
  have HL : Hid (l.length = n) := hl
  have hm : n ≤ 9223372036854775807 := by omega
  have HLE : Hid ((if n ≤ 1048576 then 1048576 - (n : Int) else -1) = 1048576 - n) := if_pos hn
  clear hB hL hN hC hU hr hl hy hs
  have FW_1 : Hid (Below w.heap.size w (w)) := Below.refl _ _
  have N_2 : Hid ((w).heap.size ≤ (((w.alloc (.cells #[.int .i64 k, .int .i64 f, .int .i64 t, .int .i64 m, .int .i64 fr] 23)).alloc (.cells #[.slice a n cap] 26))).heap.size) := (al2_b w (.cells #[.int .i64 k, .int .i64 f, .int .i64 t, .int .i64 m, .int .i64 fr] 23) (.cells #[.slice a n cap] 26)).size
  have FW_3 : Hid (Below w.heap.size w (((w.alloc (.cells #[.int .i64 k, .int .i64 f, .int .i64 t, .int .i64 m, .int .i64 fr] 23)).alloc (.cells #[.slice a n cap] 26)))) := bel_on (Nat.le_refl _) FW_1.out (al2_b w (.cells #[.int .i64 k, .int .i64 f, .int .i64 t, .int .i64 m, .int .i64 fr] 23) (.cells #[.slice a n cap] 26))
  clear FW_1
  have N_4 : Hid (((w.alloc (.cells #[.int .i64 k, .int .i64 f, .int .i64 t, .int .i64 m, .int .i64 fr] 23)).alloc (.cells #[.slice a n cap] 26)).heap.size = w.heap.size + 2) := al2_s w (.cells #[.int .i64 k, .int .i64 f, .int .i64 t, .int .i64 m, .int .i64 fr] 23) (.cells #[.slice a n cap] 26)
  have FP_5 : Hid ((((w.alloc (.cells #[.int .i64 k, .int .i64 f, .int .i64 t, .int .i64 m, .int .i64 fr] 23)).alloc (.cells #[.slice a n cap] 26))).heap[w.heap.size]? = some (.cells #[.int .i64 k, .int .i64 f, .int .i64 t, .int .i64 m, .int .i64 fr] 23)) := al2_1 w (.cells #[.int .i64 k, .int .i64 f, .int .i64 t, .int .i64 m, .int .i64 fr] 23) (.cells #[.slice a n cap] 26)
  have FA_6 : Hid ((((w.alloc (.cells #[.int .i64 k, .int .i64 f, .int .i64 t, .int .i64 m, .int .i64 fr] 23)).alloc (.cells #[.slice a n cap] 26))).heap[w.heap.size + 1]? = some (.cells #[.slice a n cap] 26)) := al2_2 w (.cells #[.int .i64 k, .int .i64 f, .int .i64 t, .int .i64 m, .int .i64 fr] 23) (.cells #[.slice a n cap] 26)
  go_enter Try.func4, Try.ntmps4
  go_wp2_with fail
  refine (szL a n cap hm _).mono ?_
  rintro e w1 ⟨rfl, hb1⟩
  rw [HLE.out]
  have N_7 : Hid ((((w.alloc (.cells #[.int .i64 k, .int .i64 f, .int .i64 t, .int .i64 m, .int .i64 fr] 23)).alloc (.cells #[.slice a n cap] 26))).heap.size ≤ (w1).heap.size) := (hb1).size
  have FW_8 : Hid (Below w.heap.size w (w1)) := bel_on (Nat.le_refl _) FW_3.out (hb1)
  have FP_9 : Hid ((w1).heap[w.heap.size]? = some (.cells #[.int .i64 k, .int .i64 f, .int .i64 t, .int .i64 m, .int .i64 fr] 23)) := row_on FP_5.out (hb1)
  have FA_10 : Hid ((w1).heap[w.heap.size + 1]? = some (.cells #[.slice a n cap] 26)) := row_on FA_6.out (hb1)
  clear FW_3 FP_5 FA_6 hb1
  go_wp2_with fail
  have Q10 : Hid (w1.cell? ⟨w.heap.size, 0, none⟩ = some (.int .i64 k)) := (box5_cells FP_9.out).1.1
  have Q11 : Hid (w1.cell? ⟨w.heap.size, 1, none⟩ = some (.int .i64 f)) := (box5_cells FP_9.out).1.2.1
  have Q12 : Hid (w1.cell? ⟨w.heap.size, 2, none⟩ = some (.int .i64 t)) := (box5_cells FP_9.out).1.2.2.1
  have Q13 : Hid (w1.cell? ⟨w.heap.size, 3, none⟩ = some (.int .i64 m)) := (box5_cells FP_9.out).1.2.2.2.1
  have Q14 : Hid (w1.cell? ⟨w.heap.size, 4, none⟩ = some (.int .i64 fr)) := (box5_cells FP_9.out).1.2.2.2.2
  have Q15 : Hid (w1.cell? ⟨w.heap.size + 1, 0, none⟩ = some (.slice a n cap)) := (row1_cells FA_10.out).1
  have HA1 : Hid (RdR w1 a l) := HR.out.keep FW_8.out (Nat.le_refl _)
  go_cut [8, 9, 10] (fun o1 o2 o3 wc => ∃ (b1 : Nat) (qs : Option Addr) (cs : Nat), o1 = .pointer (some ⟨b1, 0, none⟩) ∧ o2 = .int .i64 U ∧ o3 = .int .i64 C ∧ Hid (OutL w1 wc b1 qs N cs L))
  case first =>
    refine wp_region_held_drew (S := fun w' => Below w1.heap.size w1 w') (by kernel_rfl) (Below.refl _ _).drew (fun hHeld => ?_)
    refine wpAnyH_take (i := 0) (v := ?_) rfl (by kernel_rfl) (by kernel_rfl) (by kernel_rfl) (fun _ _ _ h => h) (Or.inl ⟨by rfl, ?_⟩) (by assumption) ?_
    rotate_left
    · intro w_ hSw; (try dsimp only at hSw); have q0_ := cell_on Q10.out hSw; have q1_ := cell_on Q11.out hSw; have q2_ := cell_on Q12.out hSw; have q3_ := cell_on Q13.out hSw; have q4_ := cell_on Q14.out hSw; have q5_ := cell_on Q15.out hSw; go_simp <;> with_reducible rfl
    simp only [Act.put, List.setIfInBounds_toArray, List.set_cons_zero, List.set_cons_succ, List.getElem_toArray, List.getElem_cons_zero]
    refine wpAnyH_take (i := 2) (v := ?_) rfl (by kernel_rfl) (by kernel_rfl) (by kernel_rfl) (fun _ _ _ h => h) (Or.inl ⟨by rfl, ?_⟩) (by assumption) ?_
    rotate_left
    · intro w_ hSw; (try dsimp only at hSw); have q0_ := cell_on Q10.out hSw; have q1_ := cell_on Q11.out hSw; have q2_ := cell_on Q12.out hSw; have q3_ := cell_on Q13.out hSw; have q4_ := cell_on Q14.out hSw; have q5_ := cell_on Q15.out hSw; go_simp <;> with_reducible rfl
    simp only [Act.put, List.setIfInBounds_toArray, List.set_cons_zero, List.set_cons_succ, List.getElem_toArray, List.getElem_cons_zero, List.getElem_cons_succ]
    refine wpAnyH_take (i := 4) (v := ?_) rfl (by kernel_rfl) (by kernel_rfl) (by kernel_rfl) (fun _ _ _ h => h) (Or.inl ⟨by rfl, ?_⟩) (by assumption) ?_
    rotate_left
    · intro w_ hSw; (try dsimp only at hSw); have q0_ := cell_on Q10.out hSw; have q1_ := cell_on Q11.out hSw; have q2_ := cell_on Q12.out hSw; have q3_ := cell_on Q13.out hSw; have q4_ := cell_on Q14.out hSw; have q5_ := cell_on Q15.out hSw; go_simp <;> with_reducible rfl
    simp only [Act.put, List.setIfInBounds_toArray, List.set_cons_zero, List.set_cons_succ, List.getElem_toArray, List.getElem_cons_zero, List.getElem_cons_succ]
    refine wpAnyH_named (fun a0 ha0 => ?_)
    have HA0 : Hid (a0 = _) := ha0
    clear ha0
    refine main_go1 (L := (fun xb => #[true, false, true, false, true, false, false, false, false, false, xb, false, false, false])) (St := (fun xb a w => ∃ (vx : Value), a = (a0.put (some 8) vx) ∧ VB w1 xb vx w zLi)) (K := 10) ?h (by kernel_rfl) (by decide) (by assumption) ⟨a0.tmps.getD 8 undef, (by simp only [put_self]), VB.no _ _ _ _⟩
    case h =>
      refine stage1 (i1 := 10) (c := 1) (fun xb => #[true, false, true, false, true, false, false, false, false, false, xb, false, false, false]) (fun xb => #[true, true, true, false, true, false, false, false, false, false, xb, false, false, false]) (fun xb a w => ∃ (vx : Value), a = (a0.put (some 8) vx) ∧ VB w1 xb vx w zLi) (fun xb a w => ∃ (vx : Value), a = ((a0.put (some 28) (.agg #[.int .i64 k, .int .i64 f, .int .i64 t, .int .i64 m, .int .i64 fr])).put (some 8) vx) ∧ VB w1 xb vx w zLi) 9 ?_ ?_ ?_ ?_ ?_ ?_ ?_
      · intro xb i hi
        cases xb
        · have e_ := mem_kernel (rs := [1, 10]) (by kernel_rfl) hi; (first | (simp at e_ ⊢; done) | (simp at e_ ⊢; omega))
        · have e_ := mem_kernel (rs := [1]) (by kernel_rfl) hi; (first | (simp at e_ ⊢; done) | (simp at e_ ⊢; omega))
      · intro xb; cases xb
        · exact ne_kernel (rs := [1, 10]) (by kernel_rfl) (by simp)
        · exact ne_kernel (rs := [1]) (by kernel_rfl) (by simp)
      · kernel_rfl
      · intro xb; cases xb <;> kernel_rfl
      · rintro a w hSw ⟨vx, rfl, bx⟩
        refine wpOp_step (i := 10) rfl (fun K hK => ?_)
        have HK : Shut _ := hK
        clear hK
        rw [HA0.out]
        simp only [Act.put, List.setIfInBounds_toArray, List.set_cons_zero, List.set_cons_succ]
        go_simp
        exact HK.out _ _ ⟨bel_on (Nat.le_refl _) hSw (al1_b w zLi), _, (by rw [HA0.out]; simp only [Act.put, List.setIfInBounds_toArray, List.set_cons_zero, List.set_cons_succ] <;> (first | with_reducible rfl | rfl)), VB.new hSw⟩
      · rintro xb a w hSw ⟨vx, rfl, bx⟩
        refine wpOp_step (i := 1) rfl (fun K hK => ?_)
        have HK : Shut _ := hK
        clear hK
        rw [HA0.out]
        simp only [Act.put, List.setIfInBounds_toArray, List.set_cons_zero, List.set_cons_succ]
        go_simp
        go_at_call 10
        refine (toP k f t m fr _).mono ?_
        rintro e w9 ⟨rfl, hb9⟩
        go_wp2_with fail
        exact HK.out _ _ ⟨bel_on (Nat.le_refl _) hSw (hb9), vx, (by rw [HA0.out]; simp only [Act.put, List.setIfInBounds_toArray, List.set_cons_zero, List.set_cons_succ] <;> (first | with_reducible rfl | rfl)), bx.on (hb9)⟩
      refine stage1 (i1 := 10) (c := 3) (fun xb => #[true, true, true, false, true, false, false, false, false, false, xb, false, false, false]) (fun xb => #[true, true, true, true, true, false, false, false, false, false, xb, false, false, false]) (fun xb a w => ∃ (vx : Value), a = ((a0.put (some 28) (.agg #[.int .i64 k, .int .i64 f, .int .i64 t, .int .i64 m, .int .i64 fr])).put (some 8) vx) ∧ VB w1 xb vx w zLi) (fun xb a w => ∃ (vx : Value) (gx : Nat), a = (((a0.put (some 28) (.agg #[.int .i64 k, .int .i64 f, .int .i64 t, .int .i64 m, .int .i64 fr])).put (some 30) (.agg #[.slice (some ⟨gx, 0, none⟩) n n])).put (some 8) vx) ∧ Hid (RowR w gx l) ∧ VB w1 xb vx w zLi) 8 ?_ ?_ ?_ ?_ ?_ ?_ ?_
      · intro xb i hi
        cases xb
        · have e_ := mem_kernel (rs := [3, 10]) (by kernel_rfl) hi; (first | (simp at e_ ⊢; done) | (simp at e_ ⊢; omega))
        · have e_ := mem_kernel (rs := [3]) (by kernel_rfl) hi; (first | (simp at e_ ⊢; done) | (simp at e_ ⊢; omega))
      · intro xb; cases xb
        · exact ne_kernel (rs := [3, 10]) (by kernel_rfl) (by simp)
        · exact ne_kernel (rs := [3]) (by kernel_rfl) (by simp)
      · kernel_rfl
      · intro xb; cases xb <;> kernel_rfl
      · rintro a w hSw ⟨vx, rfl, bx⟩
        refine wpOp_step (i := 10) rfl (fun K hK => ?_)
        have HK : Shut _ := hK
        clear hK
        rw [HA0.out]
        simp only [Act.put, List.setIfInBounds_toArray, List.set_cons_zero, List.set_cons_succ]
        go_simp
        exact HK.out _ _ ⟨bel_on (Nat.le_refl _) hSw (al1_b w zLi), _, (by rw [HA0.out]; simp only [Act.put, List.setIfInBounds_toArray, List.set_cons_zero, List.set_cons_succ] <;> (first | with_reducible rfl | rfl)), VB.new hSw⟩
      · rintro xb a w hSw ⟨vx, rfl, bx⟩
        refine wpOp_step (i := 3) rfl (fun K hK => ?_)
        have HK : Shut _ := hK
        clear hK
        rw [HA0.out]
        simp only [Act.put, List.setIfInBounds_toArray, List.set_cons_zero, List.set_cons_succ]
        go_simp
        go_at_call 11
        refine (toL a l n cap HL.out hn _ (HA1.out.on hSw)).mono ?_
        rintro e w9 ⟨gx, rfl, _, hrow9, hb9⟩
        go_wp2_with fail
        exact HK.out _ _ ⟨bel_on (Nat.le_refl _) hSw (hb9), vx, gx, (by rw [HA0.out]; simp only [Act.put, List.setIfInBounds_toArray, List.set_cons_zero, List.set_cons_succ] <;> (first | with_reducible rfl | rfl)), hid (hrow9), bx.on (hb9)⟩
      refine stage1 (i1 := 10) (c := 5) (fun xb => #[true, true, true, true, true, false, false, false, false, false, xb, false, false, false]) (fun xb => #[true, true, true, true, true, true, false, false, false, false, xb, false, false, false]) (fun xb a w => ∃ (vx : Value) (gx : Nat), a = (((a0.put (some 28) (.agg #[.int .i64 k, .int .i64 f, .int .i64 t, .int .i64 m, .int .i64 fr])).put (some 30) (.agg #[.slice (some ⟨gx, 0, none⟩) n n])).put (some 8) vx) ∧ Hid (RowR w gx l) ∧ VB w1 xb vx w zLi) (fun xb a w => ∃ (vx : Value) (gx : Nat) (qs : Option Addr) (cs : Nat), a = ((((a0.put (some 28) (.agg #[.int .i64 k, .int .i64 f, .int .i64 t, .int .i64 m, .int .i64 fr])).put (some 30) (.agg #[.slice (some ⟨gx, 0, none⟩) n n])).put (some 32) (.tuple #[.agg #[.slice qs N cs], .int .i64 U, .int .i64 C])).put (some 8) vx) ∧ Hid (RowR w gx l) ∧ Hid (OwnM w w1.heap.size qs L) ∧ VB w1 xb vx w zLi) 7 ?_ ?_ ?_ ?_ ?_ ?_ ?_
      · intro xb i hi
        cases xb
        · have e_ := mem_kernel (rs := [5, 10]) (by kernel_rfl) hi; (first | (simp at e_ ⊢; done) | (simp at e_ ⊢; omega))
        · have e_ := mem_kernel (rs := [5]) (by kernel_rfl) hi; (first | (simp at e_ ⊢; done) | (simp at e_ ⊢; omega))
      · intro xb; cases xb
        · exact ne_kernel (rs := [5, 10]) (by kernel_rfl) (by simp)
        · exact ne_kernel (rs := [5]) (by kernel_rfl) (by simp)
      · kernel_rfl
      · intro xb; cases xb <;> kernel_rfl
      · rintro a w hSw ⟨vx, gx, rfl, Hx, bx⟩
        refine wpOp_step (i := 10) rfl (fun K hK => ?_)
        have HK : Shut _ := hK
        clear hK
        rw [HA0.out]
        simp only [Act.put, List.setIfInBounds_toArray, List.set_cons_zero, List.set_cons_succ]
        go_simp
        exact HK.out _ _ ⟨bel_on (Nat.le_refl _) hSw (al1_b w zLi), _, gx, (by rw [HA0.out]; simp only [Act.put, List.setIfInBounds_toArray, List.set_cons_zero, List.set_cons_succ] <;> (first | with_reducible rfl | rfl)), hid (RowR.on Hx.out (al1_b w zLi)), VB.new hSw⟩
      · rintro xb a w hSw ⟨vx, gx, rfl, Hx, bx⟩
        refine wpOp_step (i := 5) rfl (fun K hK => ?_)
        have HK : Shut _ := hK
        clear hK
        rw [HA0.out]
        simp only [Act.put, List.setIfInBounds_toArray, List.set_cons_zero, List.set_cons_succ]
        go_simp
        go_at_call 16
        refine (takeSp k f t m fr y (some ⟨gx, 0, none⟩) l n n b L N U C HL.out hn (by omega) (by simp) HPB.out HYI.out HSI.out HLL.out HNN.out HUU.out HCC.out _ Hx.out.rd).mono ?_
        rintro e w9 ⟨qs, cs, rfl, ho9, hb9⟩
        go_wp2_with fail
        exact HK.out _ _ ⟨bel_on (Nat.le_refl _) hSw (hb9), vx, gx, qs, cs, (by rw [HA0.out]; simp only [Act.put, List.setIfInBounds_toArray, List.set_cons_zero, List.set_cons_succ] <;> (first | with_reducible rfl | rfl)), hid (RowR.on Hx.out (hb9)), hid (ho9.mono hSw.size), bx.on (hb9)⟩
      refine stage1T (i := 6) rfl (by kernel_rfl) (fun xb => #[true, true, true, true, true, true, false, false, false, false, xb, false, false, false]) (fun xb => #[true, true, true, true, true, true, true, false, false, false, xb, false, false, false]) (fun xb a w => ∃ (vx : Value) (gx : Nat) (qs : Option Addr) (cs : Nat), a = ((((a0.put (some 28) (.agg #[.int .i64 k, .int .i64 f, .int .i64 t, .int .i64 m, .int .i64 fr])).put (some 30) (.agg #[.slice (some ⟨gx, 0, none⟩) n n])).put (some 32) (.tuple #[.agg #[.slice qs N cs], .int .i64 U, .int .i64 C])).put (some 8) vx) ∧ Hid (RowR w gx l) ∧ Hid (OwnM w w1.heap.size qs L) ∧ VB w1 xb vx w zLi) (fun xb a w => ∃ (vx : Value) (gx : Nat) (qs : Option Addr) (cs : Nat), a = (((((a0.put (some 28) (.agg #[.int .i64 k, .int .i64 f, .int .i64 t, .int .i64 m, .int .i64 fr])).put (some 30) (.agg #[.slice (some ⟨gx, 0, none⟩) n n])).put (some 32) (.tuple #[.agg #[.slice qs N cs], .int .i64 U, .int .i64 C])).put (some 26) (.tuple #[.agg #[.slice qs N cs], .int .i64 U, .int .i64 C])).put (some 8) vx) ∧ Hid (RowR w gx l) ∧ Hid (OwnM w w1.heap.size qs L) ∧ VB w1 xb vx w zLi) 6 ?_ ?_ ?_ ?_ ?_ ?_
      · intro xb; cases xb <;> kernel_rfl
      · intro xb; cases xb <;> kernel_rfl
      · intro xb; cases xb <;> kernel_rfl
      · exact fun _ _ _ _ h => h
      · rintro xb a w hSw ⟨vx, gx, qs, cs, rfl, Hx, Hs, bx⟩
        refine ⟨.tuple #[.agg #[.slice qs N cs], .int .i64 U, .int .i64 C], Or.inl ⟨by rw [HA0.out]; rfl, ?_⟩, vx, gx, qs, cs, (by rw [HA0.out]; simp only [Act.put, List.setIfInBounds_toArray, List.set_cons_zero, List.set_cons_succ, List.getElem_toArray, List.getElem_cons_zero, List.getElem_cons_succ]), Hx, Hs, bx⟩
        rw [HA0.out]
        simp only [Act.put, List.setIfInBounds_toArray, List.set_cons_zero, List.set_cons_succ]
        intro w hSw; go_simp <;> with_reducible rfl
      refine stage1T (i := 7) rfl (by kernel_rfl) (fun xb => #[true, true, true, true, true, true, true, false, false, false, xb, false, false, false]) (fun xb => #[true, true, true, true, true, true, true, true, false, false, xb, false, false, false]) (fun xb a w => ∃ (vx : Value) (gx : Nat) (qs : Option Addr) (cs : Nat), a = (((((a0.put (some 28) (.agg #[.int .i64 k, .int .i64 f, .int .i64 t, .int .i64 m, .int .i64 fr])).put (some 30) (.agg #[.slice (some ⟨gx, 0, none⟩) n n])).put (some 32) (.tuple #[.agg #[.slice qs N cs], .int .i64 U, .int .i64 C])).put (some 26) (.tuple #[.agg #[.slice qs N cs], .int .i64 U, .int .i64 C])).put (some 8) vx) ∧ Hid (RowR w gx l) ∧ Hid (OwnM w w1.heap.size qs L) ∧ VB w1 xb vx w zLi) (fun xb a w => ∃ (vx : Value) (gx : Nat) (qs : Option Addr) (cs : Nat), a = ((((((a0.put (some 28) (.agg #[.int .i64 k, .int .i64 f, .int .i64 t, .int .i64 m, .int .i64 fr])).put (some 30) (.agg #[.slice (some ⟨gx, 0, none⟩) n n])).put (some 32) (.tuple #[.agg #[.slice qs N cs], .int .i64 U, .int .i64 C])).put (some 26) (.tuple #[.agg #[.slice qs N cs], .int .i64 U, .int .i64 C])).put (some 33) (.agg #[.slice qs N cs])).put (some 8) vx) ∧ Hid (RowR w gx l) ∧ Hid (OwnM w w1.heap.size qs L) ∧ VB w1 xb vx w zLi) 5 ?_ ?_ ?_ ?_ ?_ ?_
      · intro xb; cases xb <;> kernel_rfl
      · intro xb; cases xb <;> kernel_rfl
      · intro xb; cases xb <;> kernel_rfl
      · exact fun _ _ _ _ h => h
      · rintro xb a w hSw ⟨vx, gx, qs, cs, rfl, Hx, Hs, bx⟩
        refine ⟨.agg #[.slice qs N cs], Or.inl ⟨by rw [HA0.out]; rfl, ?_⟩, vx, gx, qs, cs, (by rw [HA0.out]; simp only [Act.put, List.setIfInBounds_toArray, List.set_cons_zero, List.set_cons_succ, List.getElem_toArray, List.getElem_cons_zero, List.getElem_cons_succ]), Hx, Hs, bx⟩
        rw [HA0.out]
        simp only [Act.put, List.setIfInBounds_toArray, List.set_cons_zero, List.set_cons_succ]
        intro w hSw; go_simp <;> with_reducible rfl
      refine stage1T (i := 8) rfl (by kernel_rfl) (fun xb => #[true, true, true, true, true, true, true, true, false, false, xb, false, false, false]) (fun xb => #[true, true, true, true, true, true, true, true, true, false, xb, false, false, false]) (fun xb a w => ∃ (vx : Value) (gx : Nat) (qs : Option Addr) (cs : Nat), a = ((((((a0.put (some 28) (.agg #[.int .i64 k, .int .i64 f, .int .i64 t, .int .i64 m, .int .i64 fr])).put (some 30) (.agg #[.slice (some ⟨gx, 0, none⟩) n n])).put (some 32) (.tuple #[.agg #[.slice qs N cs], .int .i64 U, .int .i64 C])).put (some 26) (.tuple #[.agg #[.slice qs N cs], .int .i64 U, .int .i64 C])).put (some 33) (.agg #[.slice qs N cs])).put (some 8) vx) ∧ Hid (RowR w gx l) ∧ Hid (OwnM w w1.heap.size qs L) ∧ VB w1 xb vx w zLi) (fun xb a w => ∃ (vx : Value) (gx : Nat) (qs : Option Addr) (cs : Nat), a = (((((((a0.put (some 28) (.agg #[.int .i64 k, .int .i64 f, .int .i64 t, .int .i64 m, .int .i64 fr])).put (some 30) (.agg #[.slice (some ⟨gx, 0, none⟩) n n])).put (some 32) (.tuple #[.agg #[.slice qs N cs], .int .i64 U, .int .i64 C])).put (some 26) (.tuple #[.agg #[.slice qs N cs], .int .i64 U, .int .i64 C])).put (some 33) (.agg #[.slice qs N cs])).put (some 34) (.int .i64 U)).put (some 8) vx) ∧ Hid (RowR w gx l) ∧ Hid (OwnM w w1.heap.size qs L) ∧ VB w1 xb vx w zLi) 4 ?_ ?_ ?_ ?_ ?_ ?_
      · intro xb; cases xb <;> kernel_rfl
      · intro xb; cases xb <;> kernel_rfl
      · intro xb; cases xb <;> kernel_rfl
      · exact fun _ _ _ _ h => h
      · rintro xb a w hSw ⟨vx, gx, qs, cs, rfl, Hx, Hs, bx⟩
        refine ⟨.int .i64 U, Or.inl ⟨by rw [HA0.out]; rfl, ?_⟩, vx, gx, qs, cs, (by rw [HA0.out]; simp only [Act.put, List.setIfInBounds_toArray, List.set_cons_zero, List.set_cons_succ, List.getElem_toArray, List.getElem_cons_zero, List.getElem_cons_succ]), Hx, Hs, bx⟩
        rw [HA0.out]
        simp only [Act.put, List.setIfInBounds_toArray, List.set_cons_zero, List.set_cons_succ]
        intro w hSw; go_simp <;> with_reducible rfl
      refine stage1T (i := 9) rfl (by kernel_rfl) (fun xb => #[true, true, true, true, true, true, true, true, true, false, xb, false, false, false]) (fun xb => #[true, true, true, true, true, true, true, true, true, true, xb, false, false, false]) (fun xb a w => ∃ (vx : Value) (gx : Nat) (qs : Option Addr) (cs : Nat), a = (((((((a0.put (some 28) (.agg #[.int .i64 k, .int .i64 f, .int .i64 t, .int .i64 m, .int .i64 fr])).put (some 30) (.agg #[.slice (some ⟨gx, 0, none⟩) n n])).put (some 32) (.tuple #[.agg #[.slice qs N cs], .int .i64 U, .int .i64 C])).put (some 26) (.tuple #[.agg #[.slice qs N cs], .int .i64 U, .int .i64 C])).put (some 33) (.agg #[.slice qs N cs])).put (some 34) (.int .i64 U)).put (some 8) vx) ∧ Hid (RowR w gx l) ∧ Hid (OwnM w w1.heap.size qs L) ∧ VB w1 xb vx w zLi) (fun xb a w => ∃ (vx : Value) (gx : Nat) (qs : Option Addr) (cs : Nat), a = ((((((((a0.put (some 28) (.agg #[.int .i64 k, .int .i64 f, .int .i64 t, .int .i64 m, .int .i64 fr])).put (some 30) (.agg #[.slice (some ⟨gx, 0, none⟩) n n])).put (some 32) (.tuple #[.agg #[.slice qs N cs], .int .i64 U, .int .i64 C])).put (some 26) (.tuple #[.agg #[.slice qs N cs], .int .i64 U, .int .i64 C])).put (some 33) (.agg #[.slice qs N cs])).put (some 34) (.int .i64 U)).put (some 35) (.int .i64 C)).put (some 8) vx) ∧ Hid (RowR w gx l) ∧ Hid (OwnM w w1.heap.size qs L) ∧ VB w1 xb vx w zLi) 3 ?_ ?_ ?_ ?_ ?_ ?_
      · intro xb; cases xb <;> kernel_rfl
      · intro xb; cases xb <;> kernel_rfl
      · intro xb; cases xb <;> kernel_rfl
      · exact fun _ _ _ _ h => h
      · rintro xb a w hSw ⟨vx, gx, qs, cs, rfl, Hx, Hs, bx⟩
        refine ⟨.int .i64 C, Or.inl ⟨by rw [HA0.out]; rfl, ?_⟩, vx, gx, qs, cs, (by rw [HA0.out]; simp only [Act.put, List.setIfInBounds_toArray, List.set_cons_zero, List.set_cons_succ, List.getElem_toArray, List.getElem_cons_zero, List.getElem_cons_succ]), Hx, Hs, bx⟩
        rw [HA0.out]
        simp only [Act.put, List.setIfInBounds_toArray, List.set_cons_zero, List.set_cons_succ]
        intro w hSw; go_simp <;> with_reducible rfl
      refine stage1e (i1 := 10) (fun xb => #[true, true, true, true, true, true, true, true, true, true, xb, false, false, false]) (fun xb a w => ∃ (vx : Value) (gx : Nat) (qs : Option Addr) (cs : Nat), a = ((((((((a0.put (some 28) (.agg #[.int .i64 k, .int .i64 f, .int .i64 t, .int .i64 m, .int .i64 fr])).put (some 30) (.agg #[.slice (some ⟨gx, 0, none⟩) n n])).put (some 32) (.tuple #[.agg #[.slice qs N cs], .int .i64 U, .int .i64 C])).put (some 26) (.tuple #[.agg #[.slice qs N cs], .int .i64 U, .int .i64 C])).put (some 33) (.agg #[.slice qs N cs])).put (some 34) (.int .i64 U)).put (some 35) (.int .i64 C)).put (some 8) vx) ∧ Hid (RowR w gx l) ∧ Hid (OwnM w w1.heap.size qs L) ∧ VB w1 xb vx w zLi) 3 ?_ ?_ ?_ ?_ ?_
      · intro i hi; have e_ := mem_kernel (rs := [10]) (by kernel_rfl) hi; simpa using e_
      · exact ne_kernel (rs := [10]) (by kernel_rfl) (by simp)
      · kernel_rfl
      · rintro a w hSw ⟨vx, gx, qs, cs, rfl, Hx, Hs, bx⟩
        refine wpOp_step (i := 10) rfl (fun K hK => ?_)
        have HK : Shut _ := hK
        clear hK
        rw [HA0.out]
        simp only [Act.put, List.setIfInBounds_toArray, List.set_cons_zero, List.set_cons_succ]
        go_simp
        exact HK.out _ _ ⟨bel_on (Nat.le_refl _) hSw (al1_b w zLi), _, gx, qs, cs, (by rw [HA0.out]; simp only [Act.put, List.setIfInBounds_toArray, List.set_cons_zero, List.set_cons_succ] <;> (first | with_reducible rfl | rfl)), hid (RowR.on Hx.out (al1_b w zLi)), hid (Hs.out.on (al1_b w zLi)), VB.new hSw⟩
      · rintro fu a w hf hSw ⟨vx, gx, qs, cs, rfl, Hx, Hs, bx⟩
        obtain ⟨f2, rfl⟩ : ∃ f2, fu = f2 + 3 := ⟨fu - 3, by omega⟩
        obtain ⟨b1, rfl, hz1, l1⟩ := bx rfl
        have kz1 := row1_cells hz1
        rw [HA0.out]
        simp only [Act.put, List.setIfInBounds_toArray, List.set_cons_zero, List.set_cons_succ]
        refine wpAnyH_ready (rs := [11]) (by kernel_rfl) (by simp) ?_
        refine AllReadyH.cons rfl (fun K hK => ?_) AllReadyH.nil
        go_simp
        refine hK.out _ _ ?_ (fun hHeld2 => ?_)
        · exact (Below.setCell hSw l1 _)
        clear hK K
        try simp only [List.setIfInBounds_toArray, List.set_cons_zero, List.set_cons_succ]
        refine wpAnyH_take (i := 12) (v := ?_) rfl (by kernel_rfl) (by kernel_rfl) (by kernel_rfl) (fun _ _ _ h => h) (Or.inl ⟨by rfl, ?_⟩) (by assumption) ?_
        rotate_left
        · intro w_ hSw2; (try dsimp only at hSw2); go_simp <;> with_reducible rfl
        try simp only [Act.put, List.setIfInBounds_toArray, List.set_cons_zero, List.set_cons_succ, List.getElem_toArray, List.getElem_cons_zero, List.getElem_cons_succ]
        try simp only [List.setIfInBounds_toArray, List.set_cons_zero, List.set_cons_succ]
        refine wpAnyH_take (i := 13) (v := ?_) rfl (by kernel_rfl) (by kernel_rfl) (by kernel_rfl) (fun _ _ _ h => h) (Or.inl ⟨by rfl, ?_⟩) (by assumption) ?_
        rotate_left
        · intro w_ hSw2; (try dsimp only at hSw2); go_simp <;> with_reducible rfl
        try simp only [Act.put, List.setIfInBounds_toArray, List.set_cons_zero, List.set_cons_succ, List.getElem_toArray, List.getElem_cons_zero, List.getElem_cons_succ]
        clear hHeld2
        refine wpAnyH_done (by kernel_rfl) ?_ _
        (try go_wp2_with fail)
        go_meet
        refine ⟨b1, qs, cs, rfl, rfl, rfl, hid ?_⟩
        with_reducible exact out_put hz1 Hs.out l1 hSw
  case rest =>
  rename World => w3
  obtain ⟨b3, q3, c3, rfl, rfl, rfl, HO3⟩ := hcut
  have N_11 : Hid ((w1).heap.size ≤ (w3).heap.size) := (HO3.out.2.2.2).size
  have FW_12 : Hid (Below w.heap.size w (w3)) := bel_on (Nat.le_refl _) FW_8.out (HO3.out.2.2.2)
  have FP_13 : Hid ((w3).heap[w.heap.size]? = some (.cells #[.int .i64 k, .int .i64 f, .int .i64 t, .int .i64 m, .int .i64 fr] 23)) := row_on FP_9.out (HO3.out.2.2.2)
  have FA_14 : Hid ((w3).heap[w.heap.size + 1]? = some (.cells #[.slice a n cap] 26)) := row_on FA_10.out (HO3.out.2.2.2)
  clear FW_8 FP_9 FA_10
  have FV3_15 : Hid ((w3).heap[b3]? = some (.cells #[.slice q3 N c3] 30)) := HO3.out.1
  have FO3_16 : Hid (OwnM (w3) w1.heap.size q3 L) := HO3.out.2.1
  have N_17 : Hid (w1.heap.size ≤ b3 ∧ b3 < w3.heap.size) := ⟨HO3.out.2.2.1, row_lt HO3.out.1⟩
  clear HO3
  clear Q10 Q11 Q12 Q13 Q14 Q15 HA1
  have HR3 : Hid (RdR w3 q3 L) := hid FO3_16.out.rd
  clear FO3_16
  have FY3_18 : Hid (Below w3.heap.size w3 (w3)) := Below.refl _ _
  have kA := row1_cells FA_14.out
  go_wp2_with fail
  clear kA
  refine (toL a l n cap HL.out hn _ (HR.out.keep FW_12.out (Nat.le_refl _))).mono ?_
  rintro e w4 ⟨g4, rfl, hg4, hrow4, hb4⟩
  have N_19 : Hid ((w3).heap.size ≤ (w4).heap.size) := (hb4).size
  have FW_20 : Hid (Below w.heap.size w (w4)) := bel_on (Nat.le_refl _) FW_12.out (hb4)
  have FP_21 : Hid ((w4).heap[w.heap.size]? = some (.cells #[.int .i64 k, .int .i64 f, .int .i64 t, .int .i64 m, .int .i64 fr] 23)) := row_on FP_13.out (hb4)
  have FA_22 : Hid ((w4).heap[w.heap.size + 1]? = some (.cells #[.slice a n cap] 26)) := row_on FA_14.out (hb4)
  have FV3_23 : Hid ((w4).heap[b3]? = some (.cells #[.slice q3 N c3] 30)) := row_on FV3_15.out (hb4)
  have FY3_24 : Hid (Below w3.heap.size w3 (w4)) := bel_on (Nat.le_refl _) FY3_18.out (hb4)
  clear FW_12 FP_13 FA_14 FV3_15 FY3_18
  have N_25 : Hid (w3.heap.size ≤ g4 ∧ g4 < w4.heap.size) := ⟨hg4, RowR.lt hrow4⟩
  have FX_26 : Hid (RowR (w4) g4 l) := hrow4
  clear hg4 hrow4 hb4
  have N_27 : Hid ((w4).heap.size ≤ (w4.alloc (.cells #[.slice (some ⟨g4, 0, none⟩) n n] 30)).heap.size) := ((Below.refl (w4).heap.size (w4)).alloc (Nat.le_refl _) (.cells #[.slice (some ⟨g4, 0, none⟩) n n] 30)).size
  have FW_28 : Hid (Below w.heap.size w (w4.alloc (.cells #[.slice (some ⟨g4, 0, none⟩) n n] 30))) := bel_on (Nat.le_refl _) FW_20.out ((Below.refl (w4).heap.size (w4)).alloc (Nat.le_refl _) (.cells #[.slice (some ⟨g4, 0, none⟩) n n] 30))
  have FP_29 : Hid ((w4.alloc (.cells #[.slice (some ⟨g4, 0, none⟩) n n] 30)).heap[w.heap.size]? = some (.cells #[.int .i64 k, .int .i64 f, .int .i64 t, .int .i64 m, .int .i64 fr] 23)) := row_on FP_21.out ((Below.refl (w4).heap.size (w4)).alloc (Nat.le_refl _) (.cells #[.slice (some ⟨g4, 0, none⟩) n n] 30))
  have FA_30 : Hid ((w4.alloc (.cells #[.slice (some ⟨g4, 0, none⟩) n n] 30)).heap[w.heap.size + 1]? = some (.cells #[.slice a n cap] 26)) := row_on FA_22.out ((Below.refl (w4).heap.size (w4)).alloc (Nat.le_refl _) (.cells #[.slice (some ⟨g4, 0, none⟩) n n] 30))
  have FV3_31 : Hid ((w4.alloc (.cells #[.slice (some ⟨g4, 0, none⟩) n n] 30)).heap[b3]? = some (.cells #[.slice q3 N c3] 30)) := row_on FV3_23.out ((Below.refl (w4).heap.size (w4)).alloc (Nat.le_refl _) (.cells #[.slice (some ⟨g4, 0, none⟩) n n] 30))
  have FY3_32 : Hid (Below w3.heap.size w3 (w4.alloc (.cells #[.slice (some ⟨g4, 0, none⟩) n n] 30))) := bel_on (Nat.le_refl _) FY3_24.out ((Below.refl (w4).heap.size (w4)).alloc (Nat.le_refl _) (.cells #[.slice (some ⟨g4, 0, none⟩) n n] 30))
  have FX_33 : Hid (RowR (w4.alloc (.cells #[.slice (some ⟨g4, 0, none⟩) n n] 30)) g4 l) := RowR.on FX_26.out ((Below.refl (w4).heap.size (w4)).alloc (Nat.le_refl _) (.cells #[.slice (some ⟨g4, 0, none⟩) n n] 30))
  clear FW_20 FP_21 FA_22 FV3_23 FY3_24 FX_26
  have N_34 : Hid (w4.heap.size < (w4.alloc (.cells #[.slice (some ⟨g4, 0, none⟩) n n] 30)).heap.size) := by simp [Hid]
  have FB_35 : Hid ((w4.alloc (.cells #[.slice (some ⟨g4, 0, none⟩) n n] 30)).heap[w4.heap.size]? = some (.cells #[.slice (some ⟨g4, 0, none⟩) n n] 30)) := heap_new w4 _
  go_wp2_with fail
  generalize hW7 : w4.alloc (.cells #[.slice (some ⟨g4, 0, none⟩) n n] 30) = w7 at *
  clear hW7
  have Q70 : Hid (w7.cell? ⟨w.heap.size, 0, none⟩ = some (.int .i64 k)) := (box5_cells FP_29.out).1.1
  have Q71 : Hid (w7.cell? ⟨w.heap.size, 1, none⟩ = some (.int .i64 f)) := (box5_cells FP_29.out).1.2.1
  have Q72 : Hid (w7.cell? ⟨w.heap.size, 2, none⟩ = some (.int .i64 t)) := (box5_cells FP_29.out).1.2.2.1
  have Q73 : Hid (w7.cell? ⟨w.heap.size, 3, none⟩ = some (.int .i64 m)) := (box5_cells FP_29.out).1.2.2.2.1
  have Q74 : Hid (w7.cell? ⟨w.heap.size, 4, none⟩ = some (.int .i64 fr)) := (box5_cells FP_29.out).1.2.2.2.2
  have Q75 : Hid (w7.cell? ⟨w4.heap.size, 0, none⟩ = some (.slice (some ⟨g4, 0, none⟩) n n)) := (row1_cells FB_35.out).1
  have HX7 : Hid (RdR w7 (some ⟨g4, 0, none⟩) l) := hid (RowR.rd FX_33.out)
  go_cut [12, 13, 14] (fun o1 o2 o3 wc => ∃ (b1 : Nat) (qs : Option Addr) (cs : Nat), o1 = .pointer (some ⟨b1, 0, none⟩) ∧ o2 = .int .i64 U ∧ o3 = .int .i64 C ∧ Hid (OutL w7 wc b1 qs N cs L))
  case first =>
    refine wp_region_held_drew (S := fun w' => Below w7.heap.size w7 w') (by kernel_rfl) (Below.refl _ _).drew (fun hHeld => ?_)
    refine wpAnyH_take (i := 0) (v := ?_) rfl (by kernel_rfl) (by kernel_rfl) (by kernel_rfl) (fun _ _ _ h => h) (Or.inl ⟨by rfl, ?_⟩) (by assumption) ?_
    rotate_left
    · intro w_ hSw; (try dsimp only at hSw); have q0_ := cell_on Q70.out hSw; have q1_ := cell_on Q71.out hSw; have q2_ := cell_on Q72.out hSw; have q3_ := cell_on Q73.out hSw; have q4_ := cell_on Q74.out hSw; have q5_ := cell_on Q75.out hSw; go_simp <;> with_reducible rfl
    simp only [Act.put, List.setIfInBounds_toArray, List.set_cons_zero, List.set_cons_succ, List.getElem_toArray, List.getElem_cons_zero]
    refine wpAnyH_take (i := 2) (v := ?_) rfl (by kernel_rfl) (by kernel_rfl) (by kernel_rfl) (fun _ _ _ h => h) (Or.inl ⟨by rfl, ?_⟩) (by assumption) ?_
    rotate_left
    · intro w_ hSw; (try dsimp only at hSw); have q0_ := cell_on Q70.out hSw; have q1_ := cell_on Q71.out hSw; have q2_ := cell_on Q72.out hSw; have q3_ := cell_on Q73.out hSw; have q4_ := cell_on Q74.out hSw; have q5_ := cell_on Q75.out hSw; go_simp <;> with_reducible rfl
    simp only [Act.put, List.setIfInBounds_toArray, List.set_cons_zero, List.set_cons_succ, List.getElem_toArray, List.getElem_cons_zero, List.getElem_cons_succ]
    refine wpAnyH_take (i := 3) (v := ?_) rfl (by kernel_rfl) (by kernel_rfl) (by kernel_rfl) (fun _ _ _ h => h) (Or.inl ⟨by rfl, ?_⟩) (by assumption) ?_
    rotate_left
    · intro w_ hSw; (try dsimp only at hSw); have q0_ := cell_on Q70.out hSw; have q1_ := cell_on Q71.out hSw; have q2_ := cell_on Q72.out hSw; have q3_ := cell_on Q73.out hSw; have q4_ := cell_on Q74.out hSw; have q5_ := cell_on Q75.out hSw; go_simp <;> with_reducible rfl
    simp only [Act.put, List.setIfInBounds_toArray, List.set_cons_zero, List.set_cons_succ, List.getElem_toArray, List.getElem_cons_zero, List.getElem_cons_succ]
    refine wpAnyH_named (fun a0 ha0 => ?_)
    have HA0 : Hid (a0 = _) := ha0
    clear ha0
    refine main_go1 (L := (fun xb => #[true, false, true, true, false, false, false, false, false, xb, false, false, false])) (St := (fun xb a w => ∃ (vx : Value), a = (a0.put (some 12) vx) ∧ VB w7 xb vx w zLi)) (K := 9) ?h (by kernel_rfl) (by decide) (by assumption) ⟨a0.tmps.getD 12 undef, (by simp only [put_self]), VB.no _ _ _ _⟩
    case h =>
      refine stage1 (i1 := 9) (c := 1) (fun xb => #[true, false, true, true, false, false, false, false, false, xb, false, false, false]) (fun xb => #[true, true, true, true, false, false, false, false, false, xb, false, false, false]) (fun xb a w => ∃ (vx : Value), a = (a0.put (some 12) vx) ∧ VB w7 xb vx w zLi) (fun xb a w => ∃ (vx : Value), a = ((a0.put (some 40) (.agg #[.int .i64 k, .int .i64 f, .int .i64 t, .int .i64 m, .int .i64 fr])).put (some 12) vx) ∧ VB w7 xb vx w zLi) 8 ?_ ?_ ?_ ?_ ?_ ?_ ?_
      · intro xb i hi
        cases xb
        · have e_ := mem_kernel (rs := [1, 9]) (by kernel_rfl) hi; (first | (simp at e_ ⊢; done) | (simp at e_ ⊢; omega))
        · have e_ := mem_kernel (rs := [1]) (by kernel_rfl) hi; (first | (simp at e_ ⊢; done) | (simp at e_ ⊢; omega))
      · intro xb; cases xb
        · exact ne_kernel (rs := [1, 9]) (by kernel_rfl) (by simp)
        · exact ne_kernel (rs := [1]) (by kernel_rfl) (by simp)
      · kernel_rfl
      · intro xb; cases xb <;> kernel_rfl
      · rintro a w hSw ⟨vx, rfl, bx⟩
        refine wpOp_step (i := 9) rfl (fun K hK => ?_)
        have HK : Shut _ := hK
        clear hK
        rw [HA0.out]
        simp only [Act.put, List.setIfInBounds_toArray, List.set_cons_zero, List.set_cons_succ]
        go_simp
        exact HK.out _ _ ⟨bel_on (Nat.le_refl _) hSw (al1_b w zLi), _, (by rw [HA0.out]; simp only [Act.put, List.setIfInBounds_toArray, List.set_cons_zero, List.set_cons_succ] <;> (first | with_reducible rfl | rfl)), VB.new hSw⟩
      · rintro xb a w hSw ⟨vx, rfl, bx⟩
        refine wpOp_step (i := 1) rfl (fun K hK => ?_)
        have HK : Shut _ := hK
        clear hK
        rw [HA0.out]
        simp only [Act.put, List.setIfInBounds_toArray, List.set_cons_zero, List.set_cons_succ]
        go_simp
        go_at_call 10
        refine (toP k f t m fr _).mono ?_
        rintro e w9 ⟨rfl, hb9⟩
        go_wp2_with fail
        exact HK.out _ _ ⟨bel_on (Nat.le_refl _) hSw (hb9), vx, (by rw [HA0.out]; simp only [Act.put, List.setIfInBounds_toArray, List.set_cons_zero, List.set_cons_succ] <;> (first | with_reducible rfl | rfl)), bx.on (hb9)⟩
      refine stage1 (i1 := 9) (c := 4) (fun xb => #[true, true, true, true, false, false, false, false, false, xb, false, false, false]) (fun xb => #[true, true, true, true, true, false, false, false, false, xb, false, false, false]) (fun xb a w => ∃ (vx : Value), a = ((a0.put (some 40) (.agg #[.int .i64 k, .int .i64 f, .int .i64 t, .int .i64 m, .int .i64 fr])).put (some 12) vx) ∧ VB w7 xb vx w zLi) (fun xb a w => ∃ (vx : Value) (qs : Option Addr) (cs : Nat), a = (((a0.put (some 40) (.agg #[.int .i64 k, .int .i64 f, .int .i64 t, .int .i64 m, .int .i64 fr])).put (some 43) (.tuple #[.agg #[.slice qs N cs], .int .i64 U, .int .i64 C])).put (some 12) vx) ∧ Hid (OwnM w w7.heap.size qs L) ∧ VB w7 xb vx w zLi) 7 ?_ ?_ ?_ ?_ ?_ ?_ ?_
      · intro xb i hi
        cases xb
        · have e_ := mem_kernel (rs := [4, 9]) (by kernel_rfl) hi; (first | (simp at e_ ⊢; done) | (simp at e_ ⊢; omega))
        · have e_ := mem_kernel (rs := [4]) (by kernel_rfl) hi; (first | (simp at e_ ⊢; done) | (simp at e_ ⊢; omega))
      · intro xb; cases xb
        · exact ne_kernel (rs := [4, 9]) (by kernel_rfl) (by simp)
        · exact ne_kernel (rs := [4]) (by kernel_rfl) (by simp)
      · kernel_rfl
      · intro xb; cases xb <;> kernel_rfl
      · rintro a w hSw ⟨vx, rfl, bx⟩
        refine wpOp_step (i := 9) rfl (fun K hK => ?_)
        have HK : Shut _ := hK
        clear hK
        rw [HA0.out]
        simp only [Act.put, List.setIfInBounds_toArray, List.set_cons_zero, List.set_cons_succ]
        go_simp
        exact HK.out _ _ ⟨bel_on (Nat.le_refl _) hSw (al1_b w zLi), _, (by rw [HA0.out]; simp only [Act.put, List.setIfInBounds_toArray, List.set_cons_zero, List.set_cons_succ] <;> (first | with_reducible rfl | rfl)), VB.new hSw⟩
      · rintro xb a w hSw ⟨vx, rfl, bx⟩
        refine wpOp_step (i := 4) rfl (fun K hK => ?_)
        have HK : Shut _ := hK
        clear hK
        rw [HA0.out]
        simp only [Act.put, List.setIfInBounds_toArray, List.set_cons_zero, List.set_cons_succ]
        go_simp
        go_at_call 17
        refine (takeI k f t m fr y (some ⟨g4, 0, none⟩) l n n b L N U C HL.out hn HPB.out HYI.out HSI.out HLL.out HNN.out HUU.out HCC.out _ (HX7.out.on hSw)).mono ?_
        rintro e w9 ⟨qs, cs, rfl, ho9, hb9⟩
        go_wp2_with fail
        exact HK.out _ _ ⟨bel_on (Nat.le_refl _) hSw (hb9), vx, qs, cs, (by rw [HA0.out]; simp only [Act.put, List.setIfInBounds_toArray, List.set_cons_zero, List.set_cons_succ] <;> (first | with_reducible rfl | rfl)), hid (ho9.mono hSw.size), bx.on (hb9)⟩
      refine stage1T (i := 5) rfl (by kernel_rfl) (fun xb => #[true, true, true, true, true, false, false, false, false, xb, false, false, false]) (fun xb => #[true, true, true, true, true, true, false, false, false, xb, false, false, false]) (fun xb a w => ∃ (vx : Value) (qs : Option Addr) (cs : Nat), a = (((a0.put (some 40) (.agg #[.int .i64 k, .int .i64 f, .int .i64 t, .int .i64 m, .int .i64 fr])).put (some 43) (.tuple #[.agg #[.slice qs N cs], .int .i64 U, .int .i64 C])).put (some 12) vx) ∧ Hid (OwnM w w7.heap.size qs L) ∧ VB w7 xb vx w zLi) (fun xb a w => ∃ (vx : Value) (qs : Option Addr) (cs : Nat), a = ((((a0.put (some 40) (.agg #[.int .i64 k, .int .i64 f, .int .i64 t, .int .i64 m, .int .i64 fr])).put (some 43) (.tuple #[.agg #[.slice qs N cs], .int .i64 U, .int .i64 C])).put (some 38) (.tuple #[.agg #[.slice qs N cs], .int .i64 U, .int .i64 C])).put (some 12) vx) ∧ Hid (OwnM w w7.heap.size qs L) ∧ VB w7 xb vx w zLi) 6 ?_ ?_ ?_ ?_ ?_ ?_
      · intro xb; cases xb <;> kernel_rfl
      · intro xb; cases xb <;> kernel_rfl
      · intro xb; cases xb <;> kernel_rfl
      · exact fun _ _ _ _ h => h
      · rintro xb a w hSw ⟨vx, qs, cs, rfl, Hs, bx⟩
        refine ⟨.tuple #[.agg #[.slice qs N cs], .int .i64 U, .int .i64 C], Or.inl ⟨by rw [HA0.out]; rfl, ?_⟩, vx, qs, cs, (by rw [HA0.out]; simp only [Act.put, List.setIfInBounds_toArray, List.set_cons_zero, List.set_cons_succ, List.getElem_toArray, List.getElem_cons_zero, List.getElem_cons_succ]), Hs, bx⟩
        rw [HA0.out]
        simp only [Act.put, List.setIfInBounds_toArray, List.set_cons_zero, List.set_cons_succ]
        intro w hSw; go_simp <;> with_reducible rfl
      refine stage1T (i := 6) rfl (by kernel_rfl) (fun xb => #[true, true, true, true, true, true, false, false, false, xb, false, false, false]) (fun xb => #[true, true, true, true, true, true, true, false, false, xb, false, false, false]) (fun xb a w => ∃ (vx : Value) (qs : Option Addr) (cs : Nat), a = ((((a0.put (some 40) (.agg #[.int .i64 k, .int .i64 f, .int .i64 t, .int .i64 m, .int .i64 fr])).put (some 43) (.tuple #[.agg #[.slice qs N cs], .int .i64 U, .int .i64 C])).put (some 38) (.tuple #[.agg #[.slice qs N cs], .int .i64 U, .int .i64 C])).put (some 12) vx) ∧ Hid (OwnM w w7.heap.size qs L) ∧ VB w7 xb vx w zLi) (fun xb a w => ∃ (vx : Value) (qs : Option Addr) (cs : Nat), a = (((((a0.put (some 40) (.agg #[.int .i64 k, .int .i64 f, .int .i64 t, .int .i64 m, .int .i64 fr])).put (some 43) (.tuple #[.agg #[.slice qs N cs], .int .i64 U, .int .i64 C])).put (some 38) (.tuple #[.agg #[.slice qs N cs], .int .i64 U, .int .i64 C])).put (some 44) (.agg #[.slice qs N cs])).put (some 12) vx) ∧ Hid (OwnM w w7.heap.size qs L) ∧ VB w7 xb vx w zLi) 5 ?_ ?_ ?_ ?_ ?_ ?_
      · intro xb; cases xb <;> kernel_rfl
      · intro xb; cases xb <;> kernel_rfl
      · intro xb; cases xb <;> kernel_rfl
      · exact fun _ _ _ _ h => h
      · rintro xb a w hSw ⟨vx, qs, cs, rfl, Hs, bx⟩
        refine ⟨.agg #[.slice qs N cs], Or.inl ⟨by rw [HA0.out]; rfl, ?_⟩, vx, qs, cs, (by rw [HA0.out]; simp only [Act.put, List.setIfInBounds_toArray, List.set_cons_zero, List.set_cons_succ, List.getElem_toArray, List.getElem_cons_zero, List.getElem_cons_succ]), Hs, bx⟩
        rw [HA0.out]
        simp only [Act.put, List.setIfInBounds_toArray, List.set_cons_zero, List.set_cons_succ]
        intro w hSw; go_simp <;> with_reducible rfl
      refine stage1T (i := 7) rfl (by kernel_rfl) (fun xb => #[true, true, true, true, true, true, true, false, false, xb, false, false, false]) (fun xb => #[true, true, true, true, true, true, true, true, false, xb, false, false, false]) (fun xb a w => ∃ (vx : Value) (qs : Option Addr) (cs : Nat), a = (((((a0.put (some 40) (.agg #[.int .i64 k, .int .i64 f, .int .i64 t, .int .i64 m, .int .i64 fr])).put (some 43) (.tuple #[.agg #[.slice qs N cs], .int .i64 U, .int .i64 C])).put (some 38) (.tuple #[.agg #[.slice qs N cs], .int .i64 U, .int .i64 C])).put (some 44) (.agg #[.slice qs N cs])).put (some 12) vx) ∧ Hid (OwnM w w7.heap.size qs L) ∧ VB w7 xb vx w zLi) (fun xb a w => ∃ (vx : Value) (qs : Option Addr) (cs : Nat), a = ((((((a0.put (some 40) (.agg #[.int .i64 k, .int .i64 f, .int .i64 t, .int .i64 m, .int .i64 fr])).put (some 43) (.tuple #[.agg #[.slice qs N cs], .int .i64 U, .int .i64 C])).put (some 38) (.tuple #[.agg #[.slice qs N cs], .int .i64 U, .int .i64 C])).put (some 44) (.agg #[.slice qs N cs])).put (some 45) (.int .i64 U)).put (some 12) vx) ∧ Hid (OwnM w w7.heap.size qs L) ∧ VB w7 xb vx w zLi) 4 ?_ ?_ ?_ ?_ ?_ ?_
      · intro xb; cases xb <;> kernel_rfl
      · intro xb; cases xb <;> kernel_rfl
      · intro xb; cases xb <;> kernel_rfl
      · exact fun _ _ _ _ h => h
      · rintro xb a w hSw ⟨vx, qs, cs, rfl, Hs, bx⟩
        refine ⟨.int .i64 U, Or.inl ⟨by rw [HA0.out]; rfl, ?_⟩, vx, qs, cs, (by rw [HA0.out]; simp only [Act.put, List.setIfInBounds_toArray, List.set_cons_zero, List.set_cons_succ, List.getElem_toArray, List.getElem_cons_zero, List.getElem_cons_succ]), Hs, bx⟩
        rw [HA0.out]
        simp only [Act.put, List.setIfInBounds_toArray, List.set_cons_zero, List.set_cons_succ]
        intro w hSw; go_simp <;> with_reducible rfl
      refine stage1T (i := 8) rfl (by kernel_rfl) (fun xb => #[true, true, true, true, true, true, true, true, false, xb, false, false, false]) (fun xb => #[true, true, true, true, true, true, true, true, true, xb, false, false, false]) (fun xb a w => ∃ (vx : Value) (qs : Option Addr) (cs : Nat), a = ((((((a0.put (some 40) (.agg #[.int .i64 k, .int .i64 f, .int .i64 t, .int .i64 m, .int .i64 fr])).put (some 43) (.tuple #[.agg #[.slice qs N cs], .int .i64 U, .int .i64 C])).put (some 38) (.tuple #[.agg #[.slice qs N cs], .int .i64 U, .int .i64 C])).put (some 44) (.agg #[.slice qs N cs])).put (some 45) (.int .i64 U)).put (some 12) vx) ∧ Hid (OwnM w w7.heap.size qs L) ∧ VB w7 xb vx w zLi) (fun xb a w => ∃ (vx : Value) (qs : Option Addr) (cs : Nat), a = (((((((a0.put (some 40) (.agg #[.int .i64 k, .int .i64 f, .int .i64 t, .int .i64 m, .int .i64 fr])).put (some 43) (.tuple #[.agg #[.slice qs N cs], .int .i64 U, .int .i64 C])).put (some 38) (.tuple #[.agg #[.slice qs N cs], .int .i64 U, .int .i64 C])).put (some 44) (.agg #[.slice qs N cs])).put (some 45) (.int .i64 U)).put (some 46) (.int .i64 C)).put (some 12) vx) ∧ Hid (OwnM w w7.heap.size qs L) ∧ VB w7 xb vx w zLi) 3 ?_ ?_ ?_ ?_ ?_ ?_
      · intro xb; cases xb <;> kernel_rfl
      · intro xb; cases xb <;> kernel_rfl
      · intro xb; cases xb <;> kernel_rfl
      · exact fun _ _ _ _ h => h
      · rintro xb a w hSw ⟨vx, qs, cs, rfl, Hs, bx⟩
        refine ⟨.int .i64 C, Or.inl ⟨by rw [HA0.out]; rfl, ?_⟩, vx, qs, cs, (by rw [HA0.out]; simp only [Act.put, List.setIfInBounds_toArray, List.set_cons_zero, List.set_cons_succ, List.getElem_toArray, List.getElem_cons_zero, List.getElem_cons_succ]), Hs, bx⟩
        rw [HA0.out]
        simp only [Act.put, List.setIfInBounds_toArray, List.set_cons_zero, List.set_cons_succ]
        intro w hSw; go_simp <;> with_reducible rfl
      refine stage1e (i1 := 9) (fun xb => #[true, true, true, true, true, true, true, true, true, xb, false, false, false]) (fun xb a w => ∃ (vx : Value) (qs : Option Addr) (cs : Nat), a = (((((((a0.put (some 40) (.agg #[.int .i64 k, .int .i64 f, .int .i64 t, .int .i64 m, .int .i64 fr])).put (some 43) (.tuple #[.agg #[.slice qs N cs], .int .i64 U, .int .i64 C])).put (some 38) (.tuple #[.agg #[.slice qs N cs], .int .i64 U, .int .i64 C])).put (some 44) (.agg #[.slice qs N cs])).put (some 45) (.int .i64 U)).put (some 46) (.int .i64 C)).put (some 12) vx) ∧ Hid (OwnM w w7.heap.size qs L) ∧ VB w7 xb vx w zLi) 3 ?_ ?_ ?_ ?_ ?_
      · intro i hi; have e_ := mem_kernel (rs := [9]) (by kernel_rfl) hi; simpa using e_
      · exact ne_kernel (rs := [9]) (by kernel_rfl) (by simp)
      · kernel_rfl
      · rintro a w hSw ⟨vx, qs, cs, rfl, Hs, bx⟩
        refine wpOp_step (i := 9) rfl (fun K hK => ?_)
        have HK : Shut _ := hK
        clear hK
        rw [HA0.out]
        simp only [Act.put, List.setIfInBounds_toArray, List.set_cons_zero, List.set_cons_succ]
        go_simp
        exact HK.out _ _ ⟨bel_on (Nat.le_refl _) hSw (al1_b w zLi), _, qs, cs, (by rw [HA0.out]; simp only [Act.put, List.setIfInBounds_toArray, List.set_cons_zero, List.set_cons_succ] <;> (first | with_reducible rfl | rfl)), hid (Hs.out.on (al1_b w zLi)), VB.new hSw⟩
      · rintro fu a w hf hSw ⟨vx, qs, cs, rfl, Hs, bx⟩
        obtain ⟨f2, rfl⟩ : ∃ f2, fu = f2 + 3 := ⟨fu - 3, by omega⟩
        obtain ⟨b1, rfl, hz1, l1⟩ := bx rfl
        have kz1 := row1_cells hz1
        rw [HA0.out]
        simp only [Act.put, List.setIfInBounds_toArray, List.set_cons_zero, List.set_cons_succ]
        refine wpAnyH_ready (rs := [10]) (by kernel_rfl) (by simp) ?_
        refine AllReadyH.cons rfl (fun K hK => ?_) AllReadyH.nil
        go_simp
        refine hK.out _ _ ?_ (fun hHeld2 => ?_)
        · exact (Below.setCell hSw l1 _)
        clear hK K
        try simp only [List.setIfInBounds_toArray, List.set_cons_zero, List.set_cons_succ]
        refine wpAnyH_take (i := 11) (v := ?_) rfl (by kernel_rfl) (by kernel_rfl) (by kernel_rfl) (fun _ _ _ h => h) (Or.inl ⟨by rfl, ?_⟩) (by assumption) ?_
        rotate_left
        · intro w_ hSw2; (try dsimp only at hSw2); go_simp <;> with_reducible rfl
        try simp only [Act.put, List.setIfInBounds_toArray, List.set_cons_zero, List.set_cons_succ, List.getElem_toArray, List.getElem_cons_zero, List.getElem_cons_succ]
        try simp only [List.setIfInBounds_toArray, List.set_cons_zero, List.set_cons_succ]
        refine wpAnyH_take (i := 12) (v := ?_) rfl (by kernel_rfl) (by kernel_rfl) (by kernel_rfl) (fun _ _ _ h => h) (Or.inl ⟨by rfl, ?_⟩) (by assumption) ?_
        rotate_left
        · intro w_ hSw2; (try dsimp only at hSw2); go_simp <;> with_reducible rfl
        try simp only [Act.put, List.setIfInBounds_toArray, List.set_cons_zero, List.set_cons_succ, List.getElem_toArray, List.getElem_cons_zero, List.getElem_cons_succ]
        clear hHeld2
        refine wpAnyH_done (by kernel_rfl) ?_ _
        (try go_wp2_with fail)
        go_meet
        refine ⟨b1, qs, cs, rfl, rfl, rfl, hid ?_⟩
        with_reducible exact out_put hz1 Hs.out l1 hSw
  case rest =>
  rename World => w8
  obtain ⟨b8, q8, c8, rfl, rfl, rfl, HO8⟩ := hcut
  have N_36 : Hid ((w7).heap.size ≤ (w8).heap.size) := (HO8.out.2.2.2).size
  have FW_37 : Hid (Below w.heap.size w (w8)) := bel_on (Nat.le_refl _) FW_28.out (HO8.out.2.2.2)
  have FP_38 : Hid ((w8).heap[w.heap.size]? = some (.cells #[.int .i64 k, .int .i64 f, .int .i64 t, .int .i64 m, .int .i64 fr] 23)) := row_on FP_29.out (HO8.out.2.2.2)
  have FA_39 : Hid ((w8).heap[w.heap.size + 1]? = some (.cells #[.slice a n cap] 26)) := row_on FA_30.out (HO8.out.2.2.2)
  have FV3_40 : Hid ((w8).heap[b3]? = some (.cells #[.slice q3 N c3] 30)) := row_on FV3_31.out (HO8.out.2.2.2)
  have FY3_41 : Hid (Below w3.heap.size w3 (w8)) := bel_on (Nat.le_refl _) FY3_32.out (HO8.out.2.2.2)
  have FX_42 : Hid (RowR (w8) g4 l) := RowR.on FX_33.out (HO8.out.2.2.2)
  have FB_43 : Hid ((w8).heap[w4.heap.size]? = some (.cells #[.slice (some ⟨g4, 0, none⟩) n n] 30)) := row_on FB_35.out (HO8.out.2.2.2)
  clear FW_28 FP_29 FA_30 FV3_31 FY3_32 FX_33 FB_35
  have FV8_44 : Hid ((w8).heap[b8]? = some (.cells #[.slice q8 N c8] 30)) := HO8.out.1
  have FO8_45 : Hid (OwnM (w8) w7.heap.size q8 L) := HO8.out.2.1
  have N_46 : Hid (w7.heap.size ≤ b8 ∧ b8 < w8.heap.size) := ⟨HO8.out.2.2.1, row_lt HO8.out.1⟩
  clear HO8
  clear Q70 Q71 Q72 Q73 Q74 Q75 HX7
  have kV8 := row1_cells FV8_44.out
  have kV3 := row1_cells FV3_40.out
  go_wp2_with fail
  clear kV8 kV3
  refine (eqL q8 q3 L N c8 c3 HNN.out HN1.out _ FO8_45.out.rd (HR3.out.keep FY3_41.out (Nat.le_refl _))).mono ?_
  rintro e w9 ⟨rfl, hb9⟩
  have N_47 : Hid ((w8).heap.size ≤ (w9).heap.size) := (hb9).size
  have FW_48 : Hid (Below w.heap.size w (w9)) := bel_on (Nat.le_refl _) FW_37.out (hb9)
  have FP_49 : Hid ((w9).heap[w.heap.size]? = some (.cells #[.int .i64 k, .int .i64 f, .int .i64 t, .int .i64 m, .int .i64 fr] 23)) := row_on FP_38.out (hb9)
  have FA_50 : Hid ((w9).heap[w.heap.size + 1]? = some (.cells #[.slice a n cap] 26)) := row_on FA_39.out (hb9)
  have FV3_51 : Hid ((w9).heap[b3]? = some (.cells #[.slice q3 N c3] 30)) := row_on FV3_40.out (hb9)
  have FY3_52 : Hid (Below w3.heap.size w3 (w9)) := bel_on (Nat.le_refl _) FY3_41.out (hb9)
  have FX_53 : Hid (RowR (w9) g4 l) := RowR.on FX_42.out (hb9)
  have FB_54 : Hid ((w9).heap[w4.heap.size]? = some (.cells #[.slice (some ⟨g4, 0, none⟩) n n] 30)) := row_on FB_43.out (hb9)
  have FV8_55 : Hid ((w9).heap[b8]? = some (.cells #[.slice q8 N c8] 30)) := row_on FV8_44.out (hb9)
  have FO8_56 : Hid (OwnM (w9) w7.heap.size q8 L) := OwnM.on FO8_45.out (hb9)
  clear FW_37 FP_38 FA_39 FV3_40 FY3_41 FX_42 FB_43 FV8_44 FO8_45 hb9
  have HQ : Hid (w9.cell? ⟨w4.heap.size, 0, none⟩ = some (.slice (some ⟨g4, 0, none⟩) n n) ∧ w9.cell? ⟨w.heap.size + 1, 0, none⟩ = some (.slice a n cap)) := ⟨(row1_cells FB_54.out).1, (row1_cells FA_50.out).1⟩
  have HRw : Hid (RdR w9 a l) := HR.out.keep FW_48.out (Nat.le_refl _)
  have HXw : Hid (RdR w9 (some ⟨g4, 0, none⟩) l) := hid (RowR.rd FX_53.out)
  go_wp2_with fail
  go_region_held3 (fun w' => w'.cell? ⟨w4.heap.size, 0, none⟩ = some (.slice (some ⟨g4, 0, none⟩) n n) ∧ w'.cell? ⟨w.heap.size + 1, 0, none⟩ = some (.slice a n cap)) (first | (with_reducible exact q2_keep HQ.out HBz.out) | (with_reducible exact q2_keep HQ.out HBt.out) | (with_reducible exact q2_keep HQ.out (Below.refl _ _).drew)) (first | (go_at_call 11; refine (toL a l n cap HL.out hn _ ?_).mono ?_; (with_reducible exact HRw.out.on (Below.refl _ _).drew); rintro e wt ⟨gt, rfl, hgt, hrowt, hbt⟩; have HBt : Hid (Below w9.heap.size w9 wt) := hid (undrew hbt)) | (go_at_call 13; refine (eqL (some ⟨g4, 0, none⟩) (some ⟨gt, 0, none⟩) l n n n HL.out hn _ ?_ hrowt.rd).mono ?_; (with_reducible exact HXw.out.on HBt.out); rintro e w10 ⟨rfl, hb10⟩; have HBz : Hid (Below w9.heap.size w9 w10) := hid (bel_on (Nat.le_refl _) HBt.out hb10)))
  rename_i HH
  clear HH hbt hb10 hrowt hgt HQ HRw HXw HBt
  have N_57 : Hid ((w9).heap.size ≤ (w10).heap.size) := (HBz.out).size
  have FW_58 : Hid (Below w.heap.size w (w10)) := bel_on (Nat.le_refl _) FW_48.out (HBz.out)
  have FP_59 : Hid ((w10).heap[w.heap.size]? = some (.cells #[.int .i64 k, .int .i64 f, .int .i64 t, .int .i64 m, .int .i64 fr] 23)) := row_on FP_49.out (HBz.out)
  have FA_60 : Hid ((w10).heap[w.heap.size + 1]? = some (.cells #[.slice a n cap] 26)) := row_on FA_50.out (HBz.out)
  have FV3_61 : Hid ((w10).heap[b3]? = some (.cells #[.slice q3 N c3] 30)) := row_on FV3_51.out (HBz.out)
  have FY3_62 : Hid (Below w3.heap.size w3 (w10)) := bel_on (Nat.le_refl _) FY3_52.out (HBz.out)
  have FX_63 : Hid (RowR (w10) g4 l) := RowR.on FX_53.out (HBz.out)
  have FB_64 : Hid ((w10).heap[w4.heap.size]? = some (.cells #[.slice (some ⟨g4, 0, none⟩) n n] 30)) := row_on FB_54.out (HBz.out)
  have FV8_65 : Hid ((w10).heap[b8]? = some (.cells #[.slice q8 N c8] 30)) := row_on FV8_55.out (HBz.out)
  have FO8_66 : Hid (OwnM (w10) w7.heap.size q8 L) := OwnM.on FO8_56.out (HBz.out)
  clear FW_48 FP_49 FA_50 FV3_51 FY3_52 FX_53 FB_54 FV8_55 FO8_56 HBz
  have kB := row1_cells FB_64.out
  go_wp2_with fail
  clear kB
  refine (markLR g4 l n n 1 1 rfl HL.out hn (by omega) _ FX_63.out).mono ?_
  rintro e w11 ⟨rfl, hg11⟩
  clear FX_63
  clear FB_64
  have N_67 : Hid ((w10).heap.size ≤ (w11).heap.size) := (hg11).size
  have FW_68 : Hid (Below w.heap.size w (w11)) := FW_58.out.grown (hg11) FW_58.out.size (fun k hk => by cases hk; exact (by have n0_ := N_4.out; have n1_ := N_7.out; have n2_ := N_11.out; have n3_ := N_17.out; have n4_ := N_19.out; have n5_ := N_25.out; have n6_ := N_34.out; have n7_ := N_36.out; have n8_ := N_46.out; have n9_ := N_47.out; have n10_ := N_57.out; have n11_ := N_67.out; omega))
  have FP_69 : Hid ((w11).heap[w.heap.size]? = some (.cells #[.int .i64 k, .int .i64 f, .int .i64 t, .int .i64 m, .int .i64 fr] 23)) := grown_row (hg11) FP_59.out (fun e => by have e_ := Option.some.inj e; have n0_ := N_4.out; have n1_ := N_7.out; have n2_ := N_11.out; have n3_ := N_17.out; have n4_ := N_19.out; have n5_ := N_25.out; have n6_ := N_34.out; have n7_ := N_36.out; have n8_ := N_46.out; have n9_ := N_47.out; have n10_ := N_57.out; have n11_ := N_67.out; omega)
  have FA_70 : Hid ((w11).heap[w.heap.size + 1]? = some (.cells #[.slice a n cap] 26)) := grown_row (hg11) FA_60.out (fun e => by have e_ := Option.some.inj e; have n0_ := N_4.out; have n1_ := N_7.out; have n2_ := N_11.out; have n3_ := N_17.out; have n4_ := N_19.out; have n5_ := N_25.out; have n6_ := N_34.out; have n7_ := N_36.out; have n8_ := N_46.out; have n9_ := N_47.out; have n10_ := N_57.out; have n11_ := N_67.out; omega)
  have FV3_71 : Hid ((w11).heap[b3]? = some (.cells #[.slice q3 N c3] 30)) := grown_row (hg11) FV3_61.out (fun e => by have e_ := Option.some.inj e; have n0_ := N_4.out; have n1_ := N_7.out; have n2_ := N_11.out; have n3_ := N_17.out; have n4_ := N_19.out; have n5_ := N_25.out; have n6_ := N_34.out; have n7_ := N_36.out; have n8_ := N_46.out; have n9_ := N_47.out; have n10_ := N_57.out; have n11_ := N_67.out; omega)
  have FY3_72 : Hid (Below w3.heap.size w3 (w11)) := FY3_62.out.grown (hg11) FY3_62.out.size (fun k hk => by cases hk; exact (by have n0_ := N_4.out; have n1_ := N_7.out; have n2_ := N_11.out; have n3_ := N_17.out; have n4_ := N_19.out; have n5_ := N_25.out; have n6_ := N_34.out; have n7_ := N_36.out; have n8_ := N_46.out; have n9_ := N_47.out; have n10_ := N_57.out; have n11_ := N_67.out; omega))
  have FV8_73 : Hid ((w11).heap[b8]? = some (.cells #[.slice q8 N c8] 30)) := grown_row (hg11) FV8_65.out (fun e => by have e_ := Option.some.inj e; have n0_ := N_4.out; have n1_ := N_7.out; have n2_ := N_11.out; have n3_ := N_17.out; have n4_ := N_19.out; have n5_ := N_25.out; have n6_ := N_34.out; have n7_ := N_36.out; have n8_ := N_46.out; have n9_ := N_47.out; have n10_ := N_57.out; have n11_ := N_67.out; omega)
  have FO8_74 : Hid (OwnM (w11) w7.heap.size q8 L) := FO8_66.out.grown (hg11) (by have n0_ := N_4.out; have n1_ := N_7.out; have n2_ := N_11.out; have n3_ := N_17.out; have n4_ := N_19.out; have n5_ := N_25.out; have n6_ := N_34.out; have n7_ := N_36.out; have n8_ := N_46.out; have n9_ := N_47.out; have n10_ := N_57.out; have n11_ := N_67.out; omega)
  clear FW_58 FP_59 FA_60 FV3_61 FY3_62 FV8_65 FO8_66 hg11
  have kV8 := row1_cells FV8_73.out
  have kV3 := row1_cells FV3_71.out
  go_wp2_with fail
  clear kV8 kV3
  refine (eqL q8 q3 L N c8 c3 HNN.out HN1.out _ FO8_74.out.rd (HR3.out.keep FY3_72.out (Nat.le_refl _))).mono ?_
  rintro e w12 ⟨rfl, hb12⟩
  have N_75 : Hid ((w11).heap.size ≤ (w12).heap.size) := (hb12).size
  have FW_76 : Hid (Below w.heap.size w (w12)) := bel_on (Nat.le_refl _) FW_68.out (hb12)
  have FP_77 : Hid ((w12).heap[w.heap.size]? = some (.cells #[.int .i64 k, .int .i64 f, .int .i64 t, .int .i64 m, .int .i64 fr] 23)) := row_on FP_69.out (hb12)
  have FA_78 : Hid ((w12).heap[w.heap.size + 1]? = some (.cells #[.slice a n cap] 26)) := row_on FA_70.out (hb12)
  have FV3_79 : Hid ((w12).heap[b3]? = some (.cells #[.slice q3 N c3] 30)) := row_on FV3_71.out (hb12)
  have FY3_80 : Hid (Below w3.heap.size w3 (w12)) := bel_on (Nat.le_refl _) FY3_72.out (hb12)
  have FV8_81 : Hid ((w12).heap[b8]? = some (.cells #[.slice q8 N c8] 30)) := row_on FV8_73.out (hb12)
  have FO8_82 : Hid (OwnM (w12) w7.heap.size q8 L) := OwnM.on FO8_74.out (hb12)
  clear FW_68 FP_69 FA_70 FV3_71 FY3_72 FV8_73 FO8_74 hb12
  have kV8 := row1_cells FV8_81.out
  go_wp2_with fail
  clear kV8
  refine (markLO q8 w7.heap.size L N c8 1 1 rfl HNN.out HN1.out (by omega) _ FO8_82.out (by have n0_ := N_4.out; have n1_ := N_7.out; have n2_ := N_11.out; have n3_ := N_17.out; have n4_ := N_19.out; have n5_ := N_25.out; have n6_ := N_34.out; have n7_ := N_36.out; have n8_ := N_46.out; have n9_ := N_47.out; have n10_ := N_57.out; have n11_ := N_67.out; have n12_ := N_75.out; omega)).mono ?_
  rintro e w13 ⟨rfl, ho13, g13, hge13, hgr13, hne13⟩
  clear FO8_82
  have N_83 : Hid (w.heap.size ≠ g13) := hne13 _ _ _ (by decide) FP_77.out
  have N_84 : Hid (w.heap.size + 1 ≠ g13) := hne13 _ _ _ (by decide) FA_78.out
  have N_85 : Hid (b3 ≠ g13) := hne13 _ _ _ (by decide) FV3_79.out
  have N_86 : Hid (b8 ≠ g13) := hne13 _ _ _ (by decide) FV8_81.out
  have N_87 : Hid (w7.heap.size ≤ g13) := hge13
  have N_88 : Hid ((w12).heap.size ≤ (w13).heap.size) := (hgr13).size
  have FW_89 : Hid (Below w.heap.size w (w13)) := FW_76.out.grown (hgr13) FW_76.out.size (fun k hk => by cases hk; exact (by have n0_ := N_4.out; have n1_ := N_7.out; have n2_ := N_11.out; have n3_ := N_17.out; have n4_ := N_19.out; have n5_ := N_25.out; have n6_ := N_34.out; have n7_ := N_36.out; have n8_ := N_46.out; have n9_ := N_47.out; have n10_ := N_57.out; have n11_ := N_67.out; have n12_ := N_75.out; have n13_ := N_83.out; have n14_ := N_84.out; have n15_ := N_85.out; have n16_ := N_86.out; have n17_ := N_87.out; have n18_ := N_88.out; omega))
  have FP_90 : Hid ((w13).heap[w.heap.size]? = some (.cells #[.int .i64 k, .int .i64 f, .int .i64 t, .int .i64 m, .int .i64 fr] 23)) := grown_row (hgr13) FP_77.out (fun e => by have e_ := Option.some.inj e; have n0_ := N_4.out; have n1_ := N_7.out; have n2_ := N_11.out; have n3_ := N_17.out; have n4_ := N_19.out; have n5_ := N_25.out; have n6_ := N_34.out; have n7_ := N_36.out; have n8_ := N_46.out; have n9_ := N_47.out; have n10_ := N_57.out; have n11_ := N_67.out; have n12_ := N_75.out; have n13_ := N_83.out; have n14_ := N_84.out; have n15_ := N_85.out; have n16_ := N_86.out; have n17_ := N_87.out; have n18_ := N_88.out; omega)
  have FA_91 : Hid ((w13).heap[w.heap.size + 1]? = some (.cells #[.slice a n cap] 26)) := grown_row (hgr13) FA_78.out (fun e => by have e_ := Option.some.inj e; have n0_ := N_4.out; have n1_ := N_7.out; have n2_ := N_11.out; have n3_ := N_17.out; have n4_ := N_19.out; have n5_ := N_25.out; have n6_ := N_34.out; have n7_ := N_36.out; have n8_ := N_46.out; have n9_ := N_47.out; have n10_ := N_57.out; have n11_ := N_67.out; have n12_ := N_75.out; have n13_ := N_83.out; have n14_ := N_84.out; have n15_ := N_85.out; have n16_ := N_86.out; have n17_ := N_87.out; have n18_ := N_88.out; omega)
  have FV3_92 : Hid ((w13).heap[b3]? = some (.cells #[.slice q3 N c3] 30)) := grown_row (hgr13) FV3_79.out (fun e => by have e_ := Option.some.inj e; have n0_ := N_4.out; have n1_ := N_7.out; have n2_ := N_11.out; have n3_ := N_17.out; have n4_ := N_19.out; have n5_ := N_25.out; have n6_ := N_34.out; have n7_ := N_36.out; have n8_ := N_46.out; have n9_ := N_47.out; have n10_ := N_57.out; have n11_ := N_67.out; have n12_ := N_75.out; have n13_ := N_83.out; have n14_ := N_84.out; have n15_ := N_85.out; have n16_ := N_86.out; have n17_ := N_87.out; have n18_ := N_88.out; omega)
  have FY3_93 : Hid (Below w3.heap.size w3 (w13)) := FY3_80.out.grown (hgr13) FY3_80.out.size (fun k hk => by cases hk; exact (by have n0_ := N_4.out; have n1_ := N_7.out; have n2_ := N_11.out; have n3_ := N_17.out; have n4_ := N_19.out; have n5_ := N_25.out; have n6_ := N_34.out; have n7_ := N_36.out; have n8_ := N_46.out; have n9_ := N_47.out; have n10_ := N_57.out; have n11_ := N_67.out; have n12_ := N_75.out; have n13_ := N_83.out; have n14_ := N_84.out; have n15_ := N_85.out; have n16_ := N_86.out; have n17_ := N_87.out; have n18_ := N_88.out; omega))
  have FV8_94 : Hid ((w13).heap[b8]? = some (.cells #[.slice q8 N c8] 30)) := grown_row (hgr13) FV8_81.out (fun e => by have e_ := Option.some.inj e; have n0_ := N_4.out; have n1_ := N_7.out; have n2_ := N_11.out; have n3_ := N_17.out; have n4_ := N_19.out; have n5_ := N_25.out; have n6_ := N_34.out; have n7_ := N_36.out; have n8_ := N_46.out; have n9_ := N_47.out; have n10_ := N_57.out; have n11_ := N_67.out; have n12_ := N_75.out; have n13_ := N_83.out; have n14_ := N_84.out; have n15_ := N_85.out; have n16_ := N_86.out; have n17_ := N_87.out; have n18_ := N_88.out; omega)
  clear FW_76 FP_77 FA_78 FV3_79 FY3_80 FV8_81 hgr13 hge13 hne13
  have FM8_95 : Hid (OwnM (w13) w7.heap.size q8 (marksP 1 N)) := ho13
  clear ho13
  have kV8 := row1_cells FV8_94.out
  go_wp2_with fail
  clear kV8
  refine (heldL q8 N 1 c8 1 rfl HN1.out (by omega) _ FM8_95.out.rd).mono ?_
  rintro e w14 ⟨rfl, hb14⟩
  have N_96 : Hid ((w13).heap.size ≤ (w14).heap.size) := (hb14).size
  have FW_97 : Hid (Below w.heap.size w (w14)) := bel_on (Nat.le_refl _) FW_89.out (hb14)
  have FP_98 : Hid ((w14).heap[w.heap.size]? = some (.cells #[.int .i64 k, .int .i64 f, .int .i64 t, .int .i64 m, .int .i64 fr] 23)) := row_on FP_90.out (hb14)
  have FA_99 : Hid ((w14).heap[w.heap.size + 1]? = some (.cells #[.slice a n cap] 26)) := row_on FA_91.out (hb14)
  have FV3_100 : Hid ((w14).heap[b3]? = some (.cells #[.slice q3 N c3] 30)) := row_on FV3_92.out (hb14)
  have FY3_101 : Hid (Below w3.heap.size w3 (w14)) := bel_on (Nat.le_refl _) FY3_93.out (hb14)
  have FV8_102 : Hid ((w14).heap[b8]? = some (.cells #[.slice q8 N c8] 30)) := row_on FV8_94.out (hb14)
  have FM8_103 : Hid (OwnM (w14) w7.heap.size q8 (marksP 1 N)) := OwnM.on FM8_95.out (hb14)
  clear FW_89 FP_90 FA_91 FV3_92 FY3_93 FV8_94 FM8_95 hb14
  go_wp2_with fail
  have Q140 : Hid (w14.cell? ⟨w.heap.size, 0, none⟩ = some (.int .i64 k)) := (box5_cells FP_98.out).1.1
  have Q141 : Hid (w14.cell? ⟨w.heap.size, 1, none⟩ = some (.int .i64 f)) := (box5_cells FP_98.out).1.2.1
  have Q142 : Hid (w14.cell? ⟨w.heap.size, 2, none⟩ = some (.int .i64 t)) := (box5_cells FP_98.out).1.2.2.1
  have Q143 : Hid (w14.cell? ⟨w.heap.size, 3, none⟩ = some (.int .i64 m)) := (box5_cells FP_98.out).1.2.2.2.1
  have Q144 : Hid (w14.cell? ⟨w.heap.size, 4, none⟩ = some (.int .i64 fr)) := (box5_cells FP_98.out).1.2.2.2.2
  have Q145 : Hid (w14.cell? ⟨w.heap.size + 1, 0, none⟩ = some (.slice a n cap)) := (row1_cells FA_99.out).1
  have HA14 : Hid (RdR w14 a l) := HR.out.keep FW_97.out (Nat.le_refl _)
  go_cut [18, 19, 20] (fun o1 o2 o3 wc => ∃ (b1 : Nat) (qs : Option Addr) (cs : Nat), o1 = .pointer (some ⟨b1, 0, none⟩) ∧ o2 = .int .i64 U ∧ o3 = .int .i64 C ∧ Hid (OutL w14 wc b1 qs N cs L))
  case first =>
    refine wp_region_held_drew (S := fun w' => Below w14.heap.size w14 w') (by kernel_rfl) (Below.refl _ _).drew (fun hHeld => ?_)
    refine wpAnyH_take (i := 0) (v := ?_) rfl (by kernel_rfl) (by kernel_rfl) (by kernel_rfl) (fun _ _ _ h => h) (Or.inl ⟨by rfl, ?_⟩) (by assumption) ?_
    rotate_left
    · intro w_ hSw; (try dsimp only at hSw); have q0_ := cell_on Q140.out hSw; have q1_ := cell_on Q141.out hSw; have q2_ := cell_on Q142.out hSw; have q3_ := cell_on Q143.out hSw; have q4_ := cell_on Q144.out hSw; have q5_ := cell_on Q145.out hSw; go_simp <;> with_reducible rfl
    simp only [Act.put, List.setIfInBounds_toArray, List.set_cons_zero, List.set_cons_succ, List.getElem_toArray, List.getElem_cons_zero]
    refine wpAnyH_take (i := 2) (v := ?_) rfl (by kernel_rfl) (by kernel_rfl) (by kernel_rfl) (fun _ _ _ h => h) (Or.inl ⟨by rfl, ?_⟩) (by assumption) ?_
    rotate_left
    · intro w_ hSw; (try dsimp only at hSw); have q0_ := cell_on Q140.out hSw; have q1_ := cell_on Q141.out hSw; have q2_ := cell_on Q142.out hSw; have q3_ := cell_on Q143.out hSw; have q4_ := cell_on Q144.out hSw; have q5_ := cell_on Q145.out hSw; go_simp <;> with_reducible rfl
    simp only [Act.put, List.setIfInBounds_toArray, List.set_cons_zero, List.set_cons_succ, List.getElem_toArray, List.getElem_cons_zero, List.getElem_cons_succ]
    refine wpAnyH_take (i := 4) (v := ?_) rfl (by kernel_rfl) (by kernel_rfl) (by kernel_rfl) (fun _ _ _ h => h) (Or.inl ⟨by rfl, ?_⟩) (by assumption) ?_
    rotate_left
    · intro w_ hSw; (try dsimp only at hSw); have q0_ := cell_on Q140.out hSw; have q1_ := cell_on Q141.out hSw; have q2_ := cell_on Q142.out hSw; have q3_ := cell_on Q143.out hSw; have q4_ := cell_on Q144.out hSw; have q5_ := cell_on Q145.out hSw; go_simp <;> with_reducible rfl
    simp only [Act.put, List.setIfInBounds_toArray, List.set_cons_zero, List.set_cons_succ, List.getElem_toArray, List.getElem_cons_zero, List.getElem_cons_succ]
    refine wpAnyH_named (fun a0 ha0 => ?_)
    have HA0 : Hid (a0 = _) := ha0
    clear ha0
    refine main_go1 (L := (fun xb => #[true, false, true, false, true, false, false, false, false, false, xb, false, false, false])) (St := (fun xb a w => ∃ (vx : Value), a = (a0.put (some 18) vx) ∧ VB w14 xb vx w zLi)) (K := 10) ?h (by kernel_rfl) (by decide) (by assumption) ⟨a0.tmps.getD 18 undef, (by simp only [put_self]), VB.no _ _ _ _⟩
    case h =>
      refine stage1 (i1 := 10) (c := 1) (fun xb => #[true, false, true, false, true, false, false, false, false, false, xb, false, false, false]) (fun xb => #[true, true, true, false, true, false, false, false, false, false, xb, false, false, false]) (fun xb a w => ∃ (vx : Value), a = (a0.put (some 18) vx) ∧ VB w14 xb vx w zLi) (fun xb a w => ∃ (vx : Value), a = ((a0.put (some 100) (.agg #[.int .i64 k, .int .i64 f, .int .i64 t, .int .i64 m, .int .i64 fr])).put (some 18) vx) ∧ VB w14 xb vx w zLi) 9 ?_ ?_ ?_ ?_ ?_ ?_ ?_
      · intro xb i hi
        cases xb
        · have e_ := mem_kernel (rs := [1, 10]) (by kernel_rfl) hi; (first | (simp at e_ ⊢; done) | (simp at e_ ⊢; omega))
        · have e_ := mem_kernel (rs := [1]) (by kernel_rfl) hi; (first | (simp at e_ ⊢; done) | (simp at e_ ⊢; omega))
      · intro xb; cases xb
        · exact ne_kernel (rs := [1, 10]) (by kernel_rfl) (by simp)
        · exact ne_kernel (rs := [1]) (by kernel_rfl) (by simp)
      · kernel_rfl
      · intro xb; cases xb <;> kernel_rfl
      · rintro a w hSw ⟨vx, rfl, bx⟩
        refine wpOp_step (i := 10) rfl (fun K hK => ?_)
        have HK : Shut _ := hK
        clear hK
        rw [HA0.out]
        simp only [Act.put, List.setIfInBounds_toArray, List.set_cons_zero, List.set_cons_succ]
        go_simp
        exact HK.out _ _ ⟨bel_on (Nat.le_refl _) hSw (al1_b w zLi), _, (by rw [HA0.out]; simp only [Act.put, List.setIfInBounds_toArray, List.set_cons_zero, List.set_cons_succ] <;> (first | with_reducible rfl | rfl)), VB.new hSw⟩
      · rintro xb a w hSw ⟨vx, rfl, bx⟩
        refine wpOp_step (i := 1) rfl (fun K hK => ?_)
        have HK : Shut _ := hK
        clear hK
        rw [HA0.out]
        simp only [Act.put, List.setIfInBounds_toArray, List.set_cons_zero, List.set_cons_succ]
        go_simp
        go_at_call 10
        refine (toP k f t m fr _).mono ?_
        rintro e w9 ⟨rfl, hb9⟩
        go_wp2_with fail
        exact HK.out _ _ ⟨bel_on (Nat.le_refl _) hSw (hb9), vx, (by rw [HA0.out]; simp only [Act.put, List.setIfInBounds_toArray, List.set_cons_zero, List.set_cons_succ] <;> (first | with_reducible rfl | rfl)), bx.on (hb9)⟩
      refine stage1 (i1 := 10) (c := 3) (fun xb => #[true, true, true, false, true, false, false, false, false, false, xb, false, false, false]) (fun xb => #[true, true, true, true, true, false, false, false, false, false, xb, false, false, false]) (fun xb a w => ∃ (vx : Value), a = ((a0.put (some 100) (.agg #[.int .i64 k, .int .i64 f, .int .i64 t, .int .i64 m, .int .i64 fr])).put (some 18) vx) ∧ VB w14 xb vx w zLi) (fun xb a w => ∃ (vx : Value) (gx : Nat), a = (((a0.put (some 100) (.agg #[.int .i64 k, .int .i64 f, .int .i64 t, .int .i64 m, .int .i64 fr])).put (some 102) (.agg #[.slice (some ⟨gx, 0, none⟩) n n])).put (some 18) vx) ∧ Hid (RowR w gx l) ∧ VB w14 xb vx w zLi) 8 ?_ ?_ ?_ ?_ ?_ ?_ ?_
      · intro xb i hi
        cases xb
        · have e_ := mem_kernel (rs := [3, 10]) (by kernel_rfl) hi; (first | (simp at e_ ⊢; done) | (simp at e_ ⊢; omega))
        · have e_ := mem_kernel (rs := [3]) (by kernel_rfl) hi; (first | (simp at e_ ⊢; done) | (simp at e_ ⊢; omega))
      · intro xb; cases xb
        · exact ne_kernel (rs := [3, 10]) (by kernel_rfl) (by simp)
        · exact ne_kernel (rs := [3]) (by kernel_rfl) (by simp)
      · kernel_rfl
      · intro xb; cases xb <;> kernel_rfl
      · rintro a w hSw ⟨vx, rfl, bx⟩
        refine wpOp_step (i := 10) rfl (fun K hK => ?_)
        have HK : Shut _ := hK
        clear hK
        rw [HA0.out]
        simp only [Act.put, List.setIfInBounds_toArray, List.set_cons_zero, List.set_cons_succ]
        go_simp
        exact HK.out _ _ ⟨bel_on (Nat.le_refl _) hSw (al1_b w zLi), _, (by rw [HA0.out]; simp only [Act.put, List.setIfInBounds_toArray, List.set_cons_zero, List.set_cons_succ] <;> (first | with_reducible rfl | rfl)), VB.new hSw⟩
      · rintro xb a w hSw ⟨vx, rfl, bx⟩
        refine wpOp_step (i := 3) rfl (fun K hK => ?_)
        have HK : Shut _ := hK
        clear hK
        rw [HA0.out]
        simp only [Act.put, List.setIfInBounds_toArray, List.set_cons_zero, List.set_cons_succ]
        go_simp
        go_at_call 11
        refine (toL a l n cap HL.out hn _ (HA14.out.on hSw)).mono ?_
        rintro e w9 ⟨gx, rfl, _, hrow9, hb9⟩
        go_wp2_with fail
        exact HK.out _ _ ⟨bel_on (Nat.le_refl _) hSw (hb9), vx, gx, (by rw [HA0.out]; simp only [Act.put, List.setIfInBounds_toArray, List.set_cons_zero, List.set_cons_succ] <;> (first | with_reducible rfl | rfl)), hid (hrow9), bx.on (hb9)⟩
      refine stage1 (i1 := 10) (c := 5) (fun xb => #[true, true, true, true, true, false, false, false, false, false, xb, false, false, false]) (fun xb => #[true, true, true, true, true, true, false, false, false, false, xb, false, false, false]) (fun xb a w => ∃ (vx : Value) (gx : Nat), a = (((a0.put (some 100) (.agg #[.int .i64 k, .int .i64 f, .int .i64 t, .int .i64 m, .int .i64 fr])).put (some 102) (.agg #[.slice (some ⟨gx, 0, none⟩) n n])).put (some 18) vx) ∧ Hid (RowR w gx l) ∧ VB w14 xb vx w zLi) (fun xb a w => ∃ (vx : Value) (gx : Nat) (qs : Option Addr) (cs : Nat), a = ((((a0.put (some 100) (.agg #[.int .i64 k, .int .i64 f, .int .i64 t, .int .i64 m, .int .i64 fr])).put (some 102) (.agg #[.slice (some ⟨gx, 0, none⟩) n n])).put (some 104) (.tuple #[.agg #[.slice qs N cs], .int .i64 U, .int .i64 C])).put (some 18) vx) ∧ Hid (RowR w gx l) ∧ Hid (OwnM w w14.heap.size qs L) ∧ VB w14 xb vx w zLi) 7 ?_ ?_ ?_ ?_ ?_ ?_ ?_
      · intro xb i hi
        cases xb
        · have e_ := mem_kernel (rs := [5, 10]) (by kernel_rfl) hi; (first | (simp at e_ ⊢; done) | (simp at e_ ⊢; omega))
        · have e_ := mem_kernel (rs := [5]) (by kernel_rfl) hi; (first | (simp at e_ ⊢; done) | (simp at e_ ⊢; omega))
      · intro xb; cases xb
        · exact ne_kernel (rs := [5, 10]) (by kernel_rfl) (by simp)
        · exact ne_kernel (rs := [5]) (by kernel_rfl) (by simp)
      · kernel_rfl
      · intro xb; cases xb <;> kernel_rfl
      · rintro a w hSw ⟨vx, gx, rfl, Hx, bx⟩
        refine wpOp_step (i := 10) rfl (fun K hK => ?_)
        have HK : Shut _ := hK
        clear hK
        rw [HA0.out]
        simp only [Act.put, List.setIfInBounds_toArray, List.set_cons_zero, List.set_cons_succ]
        go_simp
        exact HK.out _ _ ⟨bel_on (Nat.le_refl _) hSw (al1_b w zLi), _, gx, (by rw [HA0.out]; simp only [Act.put, List.setIfInBounds_toArray, List.set_cons_zero, List.set_cons_succ] <;> (first | with_reducible rfl | rfl)), hid (RowR.on Hx.out (al1_b w zLi)), VB.new hSw⟩
      · rintro xb a w hSw ⟨vx, gx, rfl, Hx, bx⟩
        refine wpOp_step (i := 5) rfl (fun K hK => ?_)
        have HK : Shut _ := hK
        clear hK
        rw [HA0.out]
        simp only [Act.put, List.setIfInBounds_toArray, List.set_cons_zero, List.set_cons_succ]
        go_simp
        go_at_call 17
        refine (takeI k f t m fr y (some ⟨gx, 0, none⟩) l n n b L N U C HL.out hn HPB.out HYI.out HSI.out HLL.out HNN.out HUU.out HCC.out _ Hx.out.rd).mono ?_
        rintro e w9 ⟨qs, cs, rfl, ho9, hb9⟩
        go_wp2_with fail
        exact HK.out _ _ ⟨bel_on (Nat.le_refl _) hSw (hb9), vx, gx, qs, cs, (by rw [HA0.out]; simp only [Act.put, List.setIfInBounds_toArray, List.set_cons_zero, List.set_cons_succ] <;> (first | with_reducible rfl | rfl)), hid (RowR.on Hx.out (hb9)), hid (ho9.mono hSw.size), bx.on (hb9)⟩
      refine stage1T (i := 6) rfl (by kernel_rfl) (fun xb => #[true, true, true, true, true, true, false, false, false, false, xb, false, false, false]) (fun xb => #[true, true, true, true, true, true, true, false, false, false, xb, false, false, false]) (fun xb a w => ∃ (vx : Value) (gx : Nat) (qs : Option Addr) (cs : Nat), a = ((((a0.put (some 100) (.agg #[.int .i64 k, .int .i64 f, .int .i64 t, .int .i64 m, .int .i64 fr])).put (some 102) (.agg #[.slice (some ⟨gx, 0, none⟩) n n])).put (some 104) (.tuple #[.agg #[.slice qs N cs], .int .i64 U, .int .i64 C])).put (some 18) vx) ∧ Hid (RowR w gx l) ∧ Hid (OwnM w w14.heap.size qs L) ∧ VB w14 xb vx w zLi) (fun xb a w => ∃ (vx : Value) (gx : Nat) (qs : Option Addr) (cs : Nat), a = (((((a0.put (some 100) (.agg #[.int .i64 k, .int .i64 f, .int .i64 t, .int .i64 m, .int .i64 fr])).put (some 102) (.agg #[.slice (some ⟨gx, 0, none⟩) n n])).put (some 104) (.tuple #[.agg #[.slice qs N cs], .int .i64 U, .int .i64 C])).put (some 98) (.tuple #[.agg #[.slice qs N cs], .int .i64 U, .int .i64 C])).put (some 18) vx) ∧ Hid (RowR w gx l) ∧ Hid (OwnM w w14.heap.size qs L) ∧ VB w14 xb vx w zLi) 6 ?_ ?_ ?_ ?_ ?_ ?_
      · intro xb; cases xb <;> kernel_rfl
      · intro xb; cases xb <;> kernel_rfl
      · intro xb; cases xb <;> kernel_rfl
      · exact fun _ _ _ _ h => h
      · rintro xb a w hSw ⟨vx, gx, qs, cs, rfl, Hx, Hs, bx⟩
        refine ⟨.tuple #[.agg #[.slice qs N cs], .int .i64 U, .int .i64 C], Or.inl ⟨by rw [HA0.out]; rfl, ?_⟩, vx, gx, qs, cs, (by rw [HA0.out]; simp only [Act.put, List.setIfInBounds_toArray, List.set_cons_zero, List.set_cons_succ, List.getElem_toArray, List.getElem_cons_zero, List.getElem_cons_succ]), Hx, Hs, bx⟩
        rw [HA0.out]
        simp only [Act.put, List.setIfInBounds_toArray, List.set_cons_zero, List.set_cons_succ]
        intro w hSw; go_simp <;> with_reducible rfl
      refine stage1T (i := 7) rfl (by kernel_rfl) (fun xb => #[true, true, true, true, true, true, true, false, false, false, xb, false, false, false]) (fun xb => #[true, true, true, true, true, true, true, true, false, false, xb, false, false, false]) (fun xb a w => ∃ (vx : Value) (gx : Nat) (qs : Option Addr) (cs : Nat), a = (((((a0.put (some 100) (.agg #[.int .i64 k, .int .i64 f, .int .i64 t, .int .i64 m, .int .i64 fr])).put (some 102) (.agg #[.slice (some ⟨gx, 0, none⟩) n n])).put (some 104) (.tuple #[.agg #[.slice qs N cs], .int .i64 U, .int .i64 C])).put (some 98) (.tuple #[.agg #[.slice qs N cs], .int .i64 U, .int .i64 C])).put (some 18) vx) ∧ Hid (RowR w gx l) ∧ Hid (OwnM w w14.heap.size qs L) ∧ VB w14 xb vx w zLi) (fun xb a w => ∃ (vx : Value) (gx : Nat) (qs : Option Addr) (cs : Nat), a = ((((((a0.put (some 100) (.agg #[.int .i64 k, .int .i64 f, .int .i64 t, .int .i64 m, .int .i64 fr])).put (some 102) (.agg #[.slice (some ⟨gx, 0, none⟩) n n])).put (some 104) (.tuple #[.agg #[.slice qs N cs], .int .i64 U, .int .i64 C])).put (some 98) (.tuple #[.agg #[.slice qs N cs], .int .i64 U, .int .i64 C])).put (some 105) (.agg #[.slice qs N cs])).put (some 18) vx) ∧ Hid (RowR w gx l) ∧ Hid (OwnM w w14.heap.size qs L) ∧ VB w14 xb vx w zLi) 5 ?_ ?_ ?_ ?_ ?_ ?_
      · intro xb; cases xb <;> kernel_rfl
      · intro xb; cases xb <;> kernel_rfl
      · intro xb; cases xb <;> kernel_rfl
      · exact fun _ _ _ _ h => h
      · rintro xb a w hSw ⟨vx, gx, qs, cs, rfl, Hx, Hs, bx⟩
        refine ⟨.agg #[.slice qs N cs], Or.inl ⟨by rw [HA0.out]; rfl, ?_⟩, vx, gx, qs, cs, (by rw [HA0.out]; simp only [Act.put, List.setIfInBounds_toArray, List.set_cons_zero, List.set_cons_succ, List.getElem_toArray, List.getElem_cons_zero, List.getElem_cons_succ]), Hx, Hs, bx⟩
        rw [HA0.out]
        simp only [Act.put, List.setIfInBounds_toArray, List.set_cons_zero, List.set_cons_succ]
        intro w hSw; go_simp <;> with_reducible rfl
      refine stage1T (i := 8) rfl (by kernel_rfl) (fun xb => #[true, true, true, true, true, true, true, true, false, false, xb, false, false, false]) (fun xb => #[true, true, true, true, true, true, true, true, true, false, xb, false, false, false]) (fun xb a w => ∃ (vx : Value) (gx : Nat) (qs : Option Addr) (cs : Nat), a = ((((((a0.put (some 100) (.agg #[.int .i64 k, .int .i64 f, .int .i64 t, .int .i64 m, .int .i64 fr])).put (some 102) (.agg #[.slice (some ⟨gx, 0, none⟩) n n])).put (some 104) (.tuple #[.agg #[.slice qs N cs], .int .i64 U, .int .i64 C])).put (some 98) (.tuple #[.agg #[.slice qs N cs], .int .i64 U, .int .i64 C])).put (some 105) (.agg #[.slice qs N cs])).put (some 18) vx) ∧ Hid (RowR w gx l) ∧ Hid (OwnM w w14.heap.size qs L) ∧ VB w14 xb vx w zLi) (fun xb a w => ∃ (vx : Value) (gx : Nat) (qs : Option Addr) (cs : Nat), a = (((((((a0.put (some 100) (.agg #[.int .i64 k, .int .i64 f, .int .i64 t, .int .i64 m, .int .i64 fr])).put (some 102) (.agg #[.slice (some ⟨gx, 0, none⟩) n n])).put (some 104) (.tuple #[.agg #[.slice qs N cs], .int .i64 U, .int .i64 C])).put (some 98) (.tuple #[.agg #[.slice qs N cs], .int .i64 U, .int .i64 C])).put (some 105) (.agg #[.slice qs N cs])).put (some 106) (.int .i64 U)).put (some 18) vx) ∧ Hid (RowR w gx l) ∧ Hid (OwnM w w14.heap.size qs L) ∧ VB w14 xb vx w zLi) 4 ?_ ?_ ?_ ?_ ?_ ?_
      · intro xb; cases xb <;> kernel_rfl
      · intro xb; cases xb <;> kernel_rfl
      · intro xb; cases xb <;> kernel_rfl
      · exact fun _ _ _ _ h => h
      · rintro xb a w hSw ⟨vx, gx, qs, cs, rfl, Hx, Hs, bx⟩
        refine ⟨.int .i64 U, Or.inl ⟨by rw [HA0.out]; rfl, ?_⟩, vx, gx, qs, cs, (by rw [HA0.out]; simp only [Act.put, List.setIfInBounds_toArray, List.set_cons_zero, List.set_cons_succ, List.getElem_toArray, List.getElem_cons_zero, List.getElem_cons_succ]), Hx, Hs, bx⟩
        rw [HA0.out]
        simp only [Act.put, List.setIfInBounds_toArray, List.set_cons_zero, List.set_cons_succ]
        intro w hSw; go_simp <;> with_reducible rfl
      refine stage1T (i := 9) rfl (by kernel_rfl) (fun xb => #[true, true, true, true, true, true, true, true, true, false, xb, false, false, false]) (fun xb => #[true, true, true, true, true, true, true, true, true, true, xb, false, false, false]) (fun xb a w => ∃ (vx : Value) (gx : Nat) (qs : Option Addr) (cs : Nat), a = (((((((a0.put (some 100) (.agg #[.int .i64 k, .int .i64 f, .int .i64 t, .int .i64 m, .int .i64 fr])).put (some 102) (.agg #[.slice (some ⟨gx, 0, none⟩) n n])).put (some 104) (.tuple #[.agg #[.slice qs N cs], .int .i64 U, .int .i64 C])).put (some 98) (.tuple #[.agg #[.slice qs N cs], .int .i64 U, .int .i64 C])).put (some 105) (.agg #[.slice qs N cs])).put (some 106) (.int .i64 U)).put (some 18) vx) ∧ Hid (RowR w gx l) ∧ Hid (OwnM w w14.heap.size qs L) ∧ VB w14 xb vx w zLi) (fun xb a w => ∃ (vx : Value) (gx : Nat) (qs : Option Addr) (cs : Nat), a = ((((((((a0.put (some 100) (.agg #[.int .i64 k, .int .i64 f, .int .i64 t, .int .i64 m, .int .i64 fr])).put (some 102) (.agg #[.slice (some ⟨gx, 0, none⟩) n n])).put (some 104) (.tuple #[.agg #[.slice qs N cs], .int .i64 U, .int .i64 C])).put (some 98) (.tuple #[.agg #[.slice qs N cs], .int .i64 U, .int .i64 C])).put (some 105) (.agg #[.slice qs N cs])).put (some 106) (.int .i64 U)).put (some 107) (.int .i64 C)).put (some 18) vx) ∧ Hid (RowR w gx l) ∧ Hid (OwnM w w14.heap.size qs L) ∧ VB w14 xb vx w zLi) 3 ?_ ?_ ?_ ?_ ?_ ?_
      · intro xb; cases xb <;> kernel_rfl
      · intro xb; cases xb <;> kernel_rfl
      · intro xb; cases xb <;> kernel_rfl
      · exact fun _ _ _ _ h => h
      · rintro xb a w hSw ⟨vx, gx, qs, cs, rfl, Hx, Hs, bx⟩
        refine ⟨.int .i64 C, Or.inl ⟨by rw [HA0.out]; rfl, ?_⟩, vx, gx, qs, cs, (by rw [HA0.out]; simp only [Act.put, List.setIfInBounds_toArray, List.set_cons_zero, List.set_cons_succ, List.getElem_toArray, List.getElem_cons_zero, List.getElem_cons_succ]), Hx, Hs, bx⟩
        rw [HA0.out]
        simp only [Act.put, List.setIfInBounds_toArray, List.set_cons_zero, List.set_cons_succ]
        intro w hSw; go_simp <;> with_reducible rfl
      refine stage1e (i1 := 10) (fun xb => #[true, true, true, true, true, true, true, true, true, true, xb, false, false, false]) (fun xb a w => ∃ (vx : Value) (gx : Nat) (qs : Option Addr) (cs : Nat), a = ((((((((a0.put (some 100) (.agg #[.int .i64 k, .int .i64 f, .int .i64 t, .int .i64 m, .int .i64 fr])).put (some 102) (.agg #[.slice (some ⟨gx, 0, none⟩) n n])).put (some 104) (.tuple #[.agg #[.slice qs N cs], .int .i64 U, .int .i64 C])).put (some 98) (.tuple #[.agg #[.slice qs N cs], .int .i64 U, .int .i64 C])).put (some 105) (.agg #[.slice qs N cs])).put (some 106) (.int .i64 U)).put (some 107) (.int .i64 C)).put (some 18) vx) ∧ Hid (RowR w gx l) ∧ Hid (OwnM w w14.heap.size qs L) ∧ VB w14 xb vx w zLi) 3 ?_ ?_ ?_ ?_ ?_
      · intro i hi; have e_ := mem_kernel (rs := [10]) (by kernel_rfl) hi; simpa using e_
      · exact ne_kernel (rs := [10]) (by kernel_rfl) (by simp)
      · kernel_rfl
      · rintro a w hSw ⟨vx, gx, qs, cs, rfl, Hx, Hs, bx⟩
        refine wpOp_step (i := 10) rfl (fun K hK => ?_)
        have HK : Shut _ := hK
        clear hK
        rw [HA0.out]
        simp only [Act.put, List.setIfInBounds_toArray, List.set_cons_zero, List.set_cons_succ]
        go_simp
        exact HK.out _ _ ⟨bel_on (Nat.le_refl _) hSw (al1_b w zLi), _, gx, qs, cs, (by rw [HA0.out]; simp only [Act.put, List.setIfInBounds_toArray, List.set_cons_zero, List.set_cons_succ] <;> (first | with_reducible rfl | rfl)), hid (RowR.on Hx.out (al1_b w zLi)), hid (Hs.out.on (al1_b w zLi)), VB.new hSw⟩
      · rintro fu a w hf hSw ⟨vx, gx, qs, cs, rfl, Hx, Hs, bx⟩
        obtain ⟨f2, rfl⟩ : ∃ f2, fu = f2 + 3 := ⟨fu - 3, by omega⟩
        obtain ⟨b1, rfl, hz1, l1⟩ := bx rfl
        have kz1 := row1_cells hz1
        rw [HA0.out]
        simp only [Act.put, List.setIfInBounds_toArray, List.set_cons_zero, List.set_cons_succ]
        refine wpAnyH_ready (rs := [11]) (by kernel_rfl) (by simp) ?_
        refine AllReadyH.cons rfl (fun K hK => ?_) AllReadyH.nil
        go_simp
        refine hK.out _ _ ?_ (fun hHeld2 => ?_)
        · exact (Below.setCell hSw l1 _)
        clear hK K
        try simp only [List.setIfInBounds_toArray, List.set_cons_zero, List.set_cons_succ]
        refine wpAnyH_take (i := 12) (v := ?_) rfl (by kernel_rfl) (by kernel_rfl) (by kernel_rfl) (fun _ _ _ h => h) (Or.inl ⟨by rfl, ?_⟩) (by assumption) ?_
        rotate_left
        · intro w_ hSw2; (try dsimp only at hSw2); go_simp <;> with_reducible rfl
        try simp only [Act.put, List.setIfInBounds_toArray, List.set_cons_zero, List.set_cons_succ, List.getElem_toArray, List.getElem_cons_zero, List.getElem_cons_succ]
        try simp only [List.setIfInBounds_toArray, List.set_cons_zero, List.set_cons_succ]
        refine wpAnyH_take (i := 13) (v := ?_) rfl (by kernel_rfl) (by kernel_rfl) (by kernel_rfl) (fun _ _ _ h => h) (Or.inl ⟨by rfl, ?_⟩) (by assumption) ?_
        rotate_left
        · intro w_ hSw2; (try dsimp only at hSw2); go_simp <;> with_reducible rfl
        try simp only [Act.put, List.setIfInBounds_toArray, List.set_cons_zero, List.set_cons_succ, List.getElem_toArray, List.getElem_cons_zero, List.getElem_cons_succ]
        clear hHeld2
        refine wpAnyH_done (by kernel_rfl) ?_ _
        (try go_wp2_with fail)
        go_meet
        refine ⟨b1, qs, cs, rfl, rfl, rfl, hid ?_⟩
        with_reducible exact out_put hz1 Hs.out l1 hSw
  case rest =>
  rename World => w15
  obtain ⟨b15, q15, c15, rfl, rfl, rfl, HO15⟩ := hcut
  have N_104 : Hid ((w14).heap.size ≤ (w15).heap.size) := (HO15.out.2.2.2).size
  have FW_105 : Hid (Below w.heap.size w (w15)) := bel_on (Nat.le_refl _) FW_97.out (HO15.out.2.2.2)
  have FP_106 : Hid ((w15).heap[w.heap.size]? = some (.cells #[.int .i64 k, .int .i64 f, .int .i64 t, .int .i64 m, .int .i64 fr] 23)) := row_on FP_98.out (HO15.out.2.2.2)
  have FA_107 : Hid ((w15).heap[w.heap.size + 1]? = some (.cells #[.slice a n cap] 26)) := row_on FA_99.out (HO15.out.2.2.2)
  have FV3_108 : Hid ((w15).heap[b3]? = some (.cells #[.slice q3 N c3] 30)) := row_on FV3_100.out (HO15.out.2.2.2)
  have FY3_109 : Hid (Below w3.heap.size w3 (w15)) := bel_on (Nat.le_refl _) FY3_101.out (HO15.out.2.2.2)
  have FV8_110 : Hid ((w15).heap[b8]? = some (.cells #[.slice q8 N c8] 30)) := row_on FV8_102.out (HO15.out.2.2.2)
  have FM8_111 : Hid (OwnM (w15) w7.heap.size q8 (marksP 1 N)) := OwnM.on FM8_103.out (HO15.out.2.2.2)
  clear FW_97 FP_98 FA_99 FV3_100 FY3_101 FV8_102 FM8_103
  have FV15_112 : Hid ((w15).heap[b15]? = some (.cells #[.slice q15 N c15] 30)) := HO15.out.1
  have FO15_113 : Hid (OwnM (w15) w14.heap.size q15 L) := HO15.out.2.1
  have N_114 : Hid (w14.heap.size ≤ b15 ∧ b15 < w15.heap.size) := ⟨HO15.out.2.2.1, row_lt HO15.out.1⟩
  clear HO15
  clear Q140 Q141 Q142 Q143 Q144 Q145 HA14
  have kV15 := row1_cells FV15_112.out
  have kV3 := row1_cells FV3_108.out
  go_wp2_with fail
  clear kV15 kV3
  refine (eqL q15 q3 L N c15 c3 HNN.out HN1.out _ FO15_113.out.rd (HR3.out.keep FY3_109.out (Nat.le_refl _))).mono ?_
  rintro e w16 ⟨rfl, hb16⟩
  have N_115 : Hid ((w15).heap.size ≤ (w16).heap.size) := (hb16).size
  have FW_116 : Hid (Below w.heap.size w (w16)) := bel_on (Nat.le_refl _) FW_105.out (hb16)
  have FP_117 : Hid ((w16).heap[w.heap.size]? = some (.cells #[.int .i64 k, .int .i64 f, .int .i64 t, .int .i64 m, .int .i64 fr] 23)) := row_on FP_106.out (hb16)
  have FA_118 : Hid ((w16).heap[w.heap.size + 1]? = some (.cells #[.slice a n cap] 26)) := row_on FA_107.out (hb16)
  have FV3_119 : Hid ((w16).heap[b3]? = some (.cells #[.slice q3 N c3] 30)) := row_on FV3_108.out (hb16)
  have FY3_120 : Hid (Below w3.heap.size w3 (w16)) := bel_on (Nat.le_refl _) FY3_109.out (hb16)
  have FV8_121 : Hid ((w16).heap[b8]? = some (.cells #[.slice q8 N c8] 30)) := row_on FV8_110.out (hb16)
  have FM8_122 : Hid (OwnM (w16) w7.heap.size q8 (marksP 1 N)) := OwnM.on FM8_111.out (hb16)
  have FV15_123 : Hid ((w16).heap[b15]? = some (.cells #[.slice q15 N c15] 30)) := row_on FV15_112.out (hb16)
  have FO15_124 : Hid (OwnM (w16) w14.heap.size q15 L) := OwnM.on FO15_113.out (hb16)
  clear FW_105 FP_106 FA_107 FV3_108 FY3_109 FV8_110 FM8_111 FV15_112 FO15_113 hb16
  have kV8 := row1_cells FV8_121.out
  go_wp2_with fail
  clear kV8
  refine (heldL q8 N 1 c8 1 rfl HN1.out (by omega) _ FM8_122.out.rd).mono ?_
  rintro e w17 ⟨rfl, hb17⟩
  have N_125 : Hid ((w16).heap.size ≤ (w17).heap.size) := (hb17).size
  have FW_126 : Hid (Below w.heap.size w (w17)) := bel_on (Nat.le_refl _) FW_116.out (hb17)
  have FP_127 : Hid ((w17).heap[w.heap.size]? = some (.cells #[.int .i64 k, .int .i64 f, .int .i64 t, .int .i64 m, .int .i64 fr] 23)) := row_on FP_117.out (hb17)
  have FA_128 : Hid ((w17).heap[w.heap.size + 1]? = some (.cells #[.slice a n cap] 26)) := row_on FA_118.out (hb17)
  have FV3_129 : Hid ((w17).heap[b3]? = some (.cells #[.slice q3 N c3] 30)) := row_on FV3_119.out (hb17)
  have FY3_130 : Hid (Below w3.heap.size w3 (w17)) := bel_on (Nat.le_refl _) FY3_120.out (hb17)
  have FV8_131 : Hid ((w17).heap[b8]? = some (.cells #[.slice q8 N c8] 30)) := row_on FV8_121.out (hb17)
  have FM8_132 : Hid (OwnM (w17) w7.heap.size q8 (marksP 1 N)) := OwnM.on FM8_122.out (hb17)
  have FV15_133 : Hid ((w17).heap[b15]? = some (.cells #[.slice q15 N c15] 30)) := row_on FV15_123.out (hb17)
  have FO15_134 : Hid (OwnM (w17) w14.heap.size q15 L) := OwnM.on FO15_124.out (hb17)
  clear FW_116 FP_117 FA_118 FV3_119 FY3_120 FV8_121 FM8_122 FV15_123 FO15_124 hb17
  go_wp2
  go_ret
  exact ⟨rfl, FW_126.out⟩

theorem walk (k f t m fr : Int) (a : Option Addr) (len cap : Nat) (z : List (Int × Int)) (y : Int) (w : World) (h : IsLine w a len cap z) (hy : (Lit.int .i64 y).wf = true) :
    Calls Try.prog 4 #[.agg #[.int .i64 k, .int .i64 f, .int .i64 t, .int .i64 m, .int .i64 fr], .agg #[.slice a len cap], .int .i64 y] w fun e w' => e = .returned (.bool true) ∧ Below w.heap.size w w' := by
  obtain ⟨hl, hc, hm, hs, hr⟩ := h
  by_cases hn : len ≤ 1048576
  · exact walk_in k f t m fr y a z len cap hl hn (wf_in hy) hs w hr
  · clear hr hl hc hs
    have HLE : Hid ((if len ≤ 1048576 then 1048576 - (len : Int) else -1) = -1) := if_neg hn
    have HW : Hid (Below w.heap.size w ((w.alloc (.cells #[.int .i64 k, .int .i64 f, .int .i64 t, .int .i64 m, .int .i64 fr] 23)).alloc (.cells #[.slice a len cap] 26))) := al2_b w _ _
    go_enter Try.func4, Try.ntmps4
    go_wp2_with fail
    refine (szL a len cap hm _).mono ?_
    rintro e w1 ⟨rfl, hb1⟩
    rw [HLE.out]
    have HW1 : Hid (Below w.heap.size w w1) := HW.out.trans (hb1.mono HW.out.size)
    clear hb1 HW
    go_wp2
    go_ret
    exact ⟨rfl, HW1.out⟩

set_option maxRecDepth 100000 in
theorem lifted (os : Os) (started : os.Started) (H : Type) (enc : TypeId × Value → H) :
    ReturnsInHanded {} Try.checked os 4 .any (Rows.fnExactTakePortSpec.pre6 enc Try.prog Try.f4 Rows.fnExactTakePortRow.domain false) (Rows.fnExactTakePortSpec.post enc Try.prog Try.f4 false true false false) := by
  refine returnsInHanded_of_change (C := Try.checked) own started (by kernel_rfl) Try.func4
    (ChangeSpec.witness6 (enc := enc) (C := Try.checked) false ⟨#[], #[.agg #[.int .i64 0, .int .i64 0, .int .i64 0, .int .i64 0, .int .i64 0], .agg #[.slice none 0 0], .int .i64 0], []⟩ 8 (by kernel_rfl) (by kernel_rfl) (by kernel_rfl) (by kernel_rfl)) ?_
  intro W base args ds gs before hval0 hW hcnd _
  have hval : ∀ (j : Nat) t v, Try.f4.params[j]? = some t → args[j]? = some v → Value.okWide Try.prog W .any base t v := hval0
  have hW' := hW
  obtain ⟨p, q, hA0, hV, rfl, hfz, hnd⟩ := hW
  have hA : DataW.TrodAll enc Try.prog W 0 (fun _ => true) true Try.f4.params.toList args.toList ds p := hA0
  rw [Try.params4] at hA hval
  obtain ⟨v0, vs0, d0, ds0, p0, q0, hargs, rfl, rfl, h0, r0⟩ := trodAll_cons hA
  obtain ⟨v1, vs1, d1, ds1, p1, q1, rfl, rfl, rfl, h1, r1⟩ := trodAll_cons r0
  obtain ⟨v2, vs2, d2, ds2, p2, q2, rfl, rfl, rfl, h2, r2⟩ := trodAll_cons r1
  obtain ⟨rfl, rfl, rfl⟩ := trodAll_nil r2
  obtain rfl : args = #[v0, v1, v2] := by cases args; simp_all
  obtain ⟨rfl, rfl⟩ := trodVars_none hV
  have k0 := h0
  have lt0 : ∀ x ∈ p0, x.block < W.heap.size := by obtain ⟨m, hm⟩ := k0; exact DataW.trod_lt m _ _ _ hm
  obtain ⟨k0p, f0p, t0p, m0p, fr0p, rfl⟩ := open_port (hval 0 23 v0 rfl rfl) h0
  have k1 := h1
  have lt1 : ∀ x ∈ p1, x.block < W.heap.size := by obtain ⟨m, hm⟩ := k1; exact DataW.trod_lt m _ _ _ hm
  obtain ⟨a1, len1, cap1, z1, rfl, w1⟩ := open_line (hval 1 26 v1 rfl rfl) h1
  obtain ⟨a2, rfl, rfl, rfl, w2⟩ := open_int Try.underlying3 (hval 2 3 v2 rfl rfl) h2
  clear hA0 hval0
  refine (walk k0p f0p t0p m0p fr0p a1 len1 cap1 z1 a2 W w1 w2).mono fun e W' ⟨he, bel⟩ => ?_
  subst he
  exact ⟨_, rfl, _, _, _, [], _, [], hW', trodAll_mk1 (shut_bool Try.underlying4 _), (trodAll_cons_mk (Below.trod laidOut (by kernel_rfl) (of_decide_eq_true (by kernel_rfl)) k0 bel lt0) (trodAll_cons_mk (Below.trod laidOut (by kernel_rfl) (of_decide_eq_true (by kernel_rfl)) k1 bel lt1) (trodAll_cons_mk (shut_int Try.underlying3 w2) trodAll_mk0))), rfl, bel.frame _, fun h => by cases h⟩

theorem over : Rows.fnExactTakePortRow.holds Try.pinned (OpenSpec.ofChange Rows.fnExactTakePortSpec) :=
  OpenClaim.holds_of_wide 4 Try.f4 rfl rfl rfl rfl rfl rfl rfl ⟨rfl, rfl, rfl, rfl, rfl⟩ rfl rfl rfl rfl rfl (by kernel_rfl) Try.func4 (by kernel_rfl)
    (of_decide_eq_true (by kernel_rfl)) (by unfold Func.isWrapper; first | (rw [if_pos (by decide +kernel)]; kernel_rfl) | (rw [if_neg (by decide +kernel)]; exact ⟨rfl, rfl⟩))
    (fun os started H enc _ => lifted os started H enc)

end Go.Proofs.Ytacpoandikheeaa.fnExactTakePort
namespace Go.Proofs.Ytacpoandikheeaa
theorem fnExactTakePort_holds : Rows.FnExactTakePortSaid :=
  fnExactTakePort.over
#print axioms fnExactTakePort_holds
end Go.Proofs.Ytacpoandikheeaa
