/-
  Proved: for every text of bytes the call of FnSumsOf returns true: two numbers that are put and reckoned with are their sum, difference, product, quotient and order, modulo Word (texts of more than 1048576 bytes the law itself lets by). No conditions.
-/
import Derived.Test.YtbacmkibilhkgaaRows
import Derived.Test.YtbacmkibilhkgaaSumsM
import Derived.OpenShut
import Derived.ShutString
import Derived.ChangeOld
import Derived.Below
import Derived.OpenVars
import Derived.Deep.DeepHandedRow
namespace Go.Proofs.Ytbacmkibilhkgaa.fnSumsOf
open Go.ChangeShapes Go.WideShapes Go.ChangeAt Go.RowKit Go.PlainAid
open Go.ChangeMaps (open_string shut_string)
set_option linter.unusedVariables false

theorem own : ownKnob Try.prog.godebug = none := by kernel_rfl
theorem laidOut : laidOutB Try.prog = true := by kernel_rfl

set_option maxRecDepth 100000 in
set_option maxHeartbeats 3000000 in
theorem sums_in (a0 : Option Addr) (len0 cap0 : Nat) (hb : len0 ≤ 1048576) (w : World) (hcode : D.CodeOk w w.heap.size a0 len0) :
    Calls Try.prog 7 #[.slice a0 len0 cap0] w fun e w' => e = .returned (.bool true) ∧ Below w.heap.size w w' := by
  go_enter Try.func7, Try.ntmps7
  go_wp2_with fail
  refine (D.big5 a0 len0 cap0 (by omega) _).mono ?_
  rintro e w0 ⟨rfl, rfl⟩
  rw [decide_eq_false (by omega)]
  go_wp2_with fail
  refine (D.places7 w0.heap.size a0 len0 cap0 _ hcode (Nat.le_refl _)).mono ?_
  rintro e w1 ⟨gp, cpp, p0, p1, p2, p3, rfl, h0, h1, h2, h3, hgp, c0, c1, c2, c3, hlp, hb1⟩
  have FW_1 : Hid (Below w0.heap.size w0 (w0)) := Below.refl _ _
  have N_2 : Hid ((w0).heap.size ≤ (w1).heap.size) := (hb1).size
  have FW_3 : Hid (Below w0.heap.size w0 (w1)) := bel_on (Nat.le_refl _) FW_1.out (hb1)
  clear FW_1 hb1 hgp
  obtain ⟨na, ha⟩ : ∃ na, p0 % 256 = na := ⟨_, rfl⟩
  obtain ⟨nb, hbb⟩ : ∃ nb, p1 % 256 = nb := ⟨_, rfl⟩
  have ha2 : p0.tmod 256 = na := by rw [Int.tmod_eq_emod_of_nonneg h0.1]; exact ha
  have hb2 : p1.tmod 256 = nb := by rw [Int.tmod_eq_emod_of_nonneg h1.1]; exact hbb
  have ha0 : 0 ≤ na ∧ na < 256 := by omega
  have hb0 : 0 ≤ nb ∧ nb < 256 := by omega
  clear h2 h3 c2 c3
  have N_4 : Hid ((w1).heap.size ≤ ((w1.alloc (.cells #[.int .i64 4, .int .i64 5, .int .i64 6, .int .i64 7, .int .i64 8] 3))).heap.size) := (al1_b w1 (.cells #[.int .i64 4, .int .i64 5, .int .i64 6, .int .i64 7, .int .i64 8] 3)).size
  have FW_5 : Hid (Below w0.heap.size w0 ((w1.alloc (.cells #[.int .i64 4, .int .i64 5, .int .i64 6, .int .i64 7, .int .i64 8] 3)))) := bel_on (Nat.le_refl _) FW_3.out (al1_b w1 (.cells #[.int .i64 4, .int .i64 5, .int .i64 6, .int .i64 7, .int .i64 8] 3))
  clear FW_3
  have N_6 : Hid ((w1.alloc (.cells #[.int .i64 4, .int .i64 5, .int .i64 6, .int .i64 7, .int .i64 8] 3)).heap.size = w1.heap.size + 1) := al1_s w1 (.cells #[.int .i64 4, .int .i64 5, .int .i64 6, .int .i64 7, .int .i64 8] 3)
  have FO_7 : Hid (((w1.alloc (.cells #[.int .i64 4, .int .i64 5, .int .i64 6, .int .i64 7, .int .i64 8] 3))).heap[w1.heap.size]? = some (.cells #[.int .i64 4, .int .i64 5, .int .i64 6, .int .i64 7, .int .i64 8] 3)) := al1_1 w1 (.cells #[.int .i64 4, .int .i64 5, .int .i64 6, .int .i64 7, .int .i64 8] 3)
  go_wp2_with fail
  clear c0 c1 ha hbb ha2 hb2 h0 h1
  go_loopw [7] (fun i wr => ∃ k : Nat, i = .int .i64 k ∧ k ≤ 5 ∧ Hid (wr.heap[w1.heap.size]? = some (.cells #[.int .i64 4, .int .i64 5, .int .i64 6, .int .i64 7, .int .i64 8] 3)) ∧ Hid (Below w0.heap.size w0 wr)) (fun i _ => 6 - (intOf i).toNat)
  case atStart => exact ⟨0, rfl, by omega, FO_7, FW_5⟩
  case round =>
    clear FW_5 FO_7
    obtain ⟨k, rfl, hk5, HO, HW⟩ := hrel
    by_cases hk : k < 5
    · have hki : (k : Int) < 5 := by omega
      obtain ⟨op, hop⟩ : ∃ op : Int, 4 + (k : Int) = op := ⟨_, rfl⟩
      have ho : 4 ≤ op ∧ op ≤ 8 := by omega
      have HOP : Hid (4 + (k : Int) = op) := hop
      clear hop
      have kO : wr.cell? ⟨w1.heap.size, k, none⟩ = some (.int .i64 op) := by
        rw [cell_of_row _ _ _ _ _ (0, 0) HO.out]
        have hk' : k = 0 ∨ k = 1 ∨ k = 2 ∨ k = 3 ∨ k = 4 := by omega
        have e := HOP.out
        rcases hk' with rfl | rfl | rfl | rfl | rfl <;> (have e2 := e; simp at e2; subst e2; rfl)
      have HO2 : Hid (((wr.alloc (.cells #[.int .i64 1, .int .i64 na, .int .i64 1, .int .i64 nb, .int .i64 op, .int .i64 0] 65)).alloc (.cells #[.int .i64 0, .slice none 0 0] 27)).heap[w1.heap.size]? = _) := row_al (row_al HO.out)
      have HL2 : Hid (I.RowR ((wr.alloc (.cells #[.int .i64 1, .int .i64 na, .int .i64 1, .int .i64 nb, .int .i64 op, .int .i64 0] 65)).alloc (.cells #[.int .i64 0, .slice none 0 0] 27)) wr.heap.size (sRl op na nb)) := al2_1 wr (.cells #[.int .i64 1, .int .i64 na, .int .i64 1, .int .i64 nb, .int .i64 op, .int .i64 0] 65) (.cells #[.int .i64 0, .slice none 0 0] 27)
      have HC2 : Hid (((wr.alloc (.cells #[.int .i64 1, .int .i64 na, .int .i64 1, .int .i64 nb, .int .i64 op, .int .i64 0] 65)).alloc (.cells #[.int .i64 0, .slice none 0 0] 27)).heap[wr.heap.size + 1]? = some (.cells #[.int .i64 0, .slice none 0 0] 27)) := al2_2 wr (.cells #[.int .i64 1, .int .i64 na, .int .i64 1, .int .i64 nb, .int .i64 op, .int .i64 0] 65) (.cells #[.int .i64 0, .slice none 0 0] 27)
      have HW2 : Hid (Below w0.heap.size w0 ((wr.alloc (.cells #[.int .i64 1, .int .i64 na, .int .i64 1, .int .i64 nb, .int .i64 op, .int .i64 0] 65)).alloc (.cells #[.int .i64 0, .slice none 0 0] 27))) := bel_on (Nat.le_refl _) HW.out (al2_b wr (.cells #[.int .i64 1, .int .i64 na, .int .i64 1, .int .i64 nb, .int .i64 op, .int .i64 0] 65) (.cells #[.int .i64 0, .slice none 0 0] 27))
      have hlt1 : w1.heap.size < wr.heap.size := row_lt HO.out
      have HW0 : Hid (w0.heap.size ≤ wr.heap.size) := HW.out.size
      clear HO HW
      go_wp2_with fail
      clear kO
      go_loopw [10, 11] (fun tr i wi => ∃ (j : Nat) (q : Option Addr) (c : Nat), i = .int .i64 j ∧ j ≤ 3 ∧ tr = .int .i64 (sTr op nb j) ∧ Hid (wi.heap[w1.heap.size]? = some (.cells #[.int .i64 4, .int .i64 5, .int .i64 6, .int .i64 7, .int .i64 8] 3)) ∧ Hid (I.RowR wi wr.heap.size (sRl op na nb)) ∧ Hid (wi.heap[wr.heap.size + 1]? = some (.cells #[.int .i64 (sPc op nb j), .slice q (sSt op na nb j).length c] 27)) ∧ Hid (Rd wi q (sSt op na nb j)) ∧ Hid (Below w0.heap.size w0 wi)) (fun _ i _ => 4 - (intOf i).toNat)
      case atStart => exact ⟨0, none, 0, rfl, by omega, rfl, HO2, HL2, HC2, Rd.nil _ _, HW2⟩
      case round =>
        clear HO2 HL2 HC2 HW2
        rename World => wi
        obtain ⟨j, q, c, rfl, hj3, rfl, HO, HL, HC, HR, HW⟩ := hrel
        by_cases hj : j < 3
        · have hji : (j : Int) < 3 := by omega
          have Q0 : Hid (wi.cell? ⟨wr.heap.size + 1, 0, none⟩ = some (.int .i64 (sPc op nb j))) := (row2_cells HC.out).1
          have Q1 : Hid (wi.cell? ⟨wr.heap.size + 1, 1, none⟩ = some (.slice q (sSt op na nb j).length c)) := (row2_cells HC.out).2.1
          go_wp2_with fail
          go_cut [12, 13, 14] (fun o1 o2 o3 wc => ∃ (b1 b2 b3 gs cs ga ca : Nat), o1 = .pointer (some ⟨b1, 0, none⟩) ∧ o2 = .pointer (some ⟨b2, 0, none⟩) ∧ o3 = .pointer (some ⟨b3, 0, none⟩) ∧ Hid (OutB wi wc b1 b2 b3 gs cs ga ca 64 (sSt op na nb (j + 1)).length (sRes op na nb (j + 1))))
          case first =>
            refine wp_region_held_drew (S := fun w' => Below wi.heap.size wi w') (by kernel_rfl) (Below.refl _ _).drew (fun hHeld => ?_)
            refine wpAnyH_take (i := 0) (v := ?_) rfl (by kernel_rfl) (by kernel_rfl) (by kernel_rfl) (fun _ _ _ h => h) (Or.inl ⟨by rfl, ?_⟩) (by assumption) ?_
            rotate_left
            · intro w hSw; (try dsimp only at hSw); have q0_ := cell_on Q0.out hSw; have q1_ := cell_on Q1.out hSw; go_simp <;> with_reducible rfl
            simp only [Act.put, List.setIfInBounds_toArray, List.set_cons_zero, List.set_cons_succ, List.getElem_toArray, List.getElem_cons_zero]
            refine wpAnyH_take (i := 1) (v := ?_) rfl (by kernel_rfl) (by kernel_rfl) (by kernel_rfl) (fun _ _ _ h => h) (Or.inl ⟨by rfl, ?_⟩) (by assumption) ?_
            rotate_left
            · intro w hSw; (try dsimp only at hSw); have q0_ := cell_on Q0.out hSw; have q1_ := cell_on Q1.out hSw; go_simp <;> with_reducible rfl
            simp only [Act.put, List.setIfInBounds_toArray, List.set_cons_zero, List.set_cons_succ, List.getElem_toArray, List.getElem_cons_zero, List.getElem_cons_succ]
            refine wpAnyH_take (i := 3) (v := ?_) rfl (by kernel_rfl) (by kernel_rfl) (by kernel_rfl) (fun _ _ _ h => h) (Or.inl ⟨by rfl, ?_⟩) (by assumption) ?_
            rotate_left
            · intro w hSw; (try dsimp only at hSw); have q0_ := cell_on Q0.out hSw; have q1_ := cell_on Q1.out hSw; go_simp <;> with_reducible rfl
            simp only [Act.put, List.setIfInBounds_toArray, List.set_cons_zero, List.set_cons_succ, List.getElem_toArray, List.getElem_cons_zero, List.getElem_cons_succ]
            refine wpAnyH_named (fun a0 ha0 => ?_)
            have HA0 : Hid (a0 = _) := ha0
            clear ha0
            refine main_go (L := (fun x y z => #[true, true, false, true, false, false, false, false, false, x, y, z, false, false, false])) (St := (fun x y z a w => ∃ (vx vy vz : Value), a = (((a0.put (some 12) vx).put (some 13) vy).put (some 14) vz) ∧ VB wi x vx w zCpu ∧ VB wi y vy w zAr ∧ VB wi z vz w zEf)) (K := 9) ?h (by kernel_rfl) (by decide) (by assumption) ⟨a0.tmps.getD 12 undef, a0.tmps.getD 13 undef, a0.tmps.getD 14 undef, (by simp only [put_self]), VB.no _ _ _ _, VB.no _ _ _ _, VB.no _ _ _ _⟩
            case h =>
              refine stage3 (i1 := 9) (i2 := 10) (i3 := 11) (c := 2) (fun x y z => #[true, true, false, true, false, false, false, false, false, x, y, z, false, false, false]) (fun x y z => #[true, true, true, true, false, false, false, false, false, x, y, z, false, false, false]) (fun x y z a w => ∃ (vx vy vz : Value), a = (((a0.put (some 12) vx).put (some 13) vy).put (some 14) vz) ∧ VB wi x vx w zCpu ∧ VB wi y vy w zAr ∧ VB wi z vz w zEf) (fun x y z a w => ∃ (vx vy vz : Value) (gz : Nat), a = ((((a0.put (some 53) (.agg #[.slice (some ⟨gz, 0, none⟩) 64 64])).put (some 12) vx).put (some 13) vy).put (some 14) vz) ∧ Hid (RowAt w gz z64) ∧ VB wi x vx w zCpu ∧ VB wi y vy w zAr ∧ VB wi z vz w zEf) 8 ?_ ?_ ?_ ?_ ?_ ?_ ?_ ?_ ?_ ?_ ?_
              · intro x y z i hi
                cases x <;> cases y <;> cases z
                · have e_ := mem_kernel (rs := [2, 9, 10, 11]) (by kernel_rfl) hi; (first | (simp at e_ ⊢; done) | (simp at e_ ⊢; omega))
                · have e_ := mem_kernel (rs := [2, 9, 10]) (by kernel_rfl) hi; (first | (simp at e_ ⊢; done) | (simp at e_ ⊢; omega))
                · have e_ := mem_kernel (rs := [2, 9, 11]) (by kernel_rfl) hi; (first | (simp at e_ ⊢; done) | (simp at e_ ⊢; omega))
                · have e_ := mem_kernel (rs := [2, 9]) (by kernel_rfl) hi; (first | (simp at e_ ⊢; done) | (simp at e_ ⊢; omega))
                · have e_ := mem_kernel (rs := [2, 10, 11]) (by kernel_rfl) hi; (first | (simp at e_ ⊢; done) | (simp at e_ ⊢; omega))
                · have e_ := mem_kernel (rs := [2, 10]) (by kernel_rfl) hi; (first | (simp at e_ ⊢; done) | (simp at e_ ⊢; omega))
                · have e_ := mem_kernel (rs := [2, 11]) (by kernel_rfl) hi; (first | (simp at e_ ⊢; done) | (simp at e_ ⊢; omega))
                · have e_ := mem_kernel (rs := [2]) (by kernel_rfl) hi; (first | (simp at e_ ⊢; done) | (simp at e_ ⊢; omega))
              · intro x y z
                cases x <;> cases y <;> cases z
                · exact ne_kernel (rs := [2, 9, 10, 11]) (by kernel_rfl) (by simp)
                · exact ne_kernel (rs := [2, 9, 10]) (by kernel_rfl) (by simp)
                · exact ne_kernel (rs := [2, 9, 11]) (by kernel_rfl) (by simp)
                · exact ne_kernel (rs := [2, 9]) (by kernel_rfl) (by simp)
                · exact ne_kernel (rs := [2, 10, 11]) (by kernel_rfl) (by simp)
                · exact ne_kernel (rs := [2, 10]) (by kernel_rfl) (by simp)
                · exact ne_kernel (rs := [2, 11]) (by kernel_rfl) (by simp)
                · exact ne_kernel (rs := [2]) (by kernel_rfl) (by simp)
              · intro x y; cases x <;> cases y <;> kernel_rfl
              · intro x y; cases x <;> cases y <;> kernel_rfl
              · intro x y; cases x <;> cases y <;> kernel_rfl
              · intro x y z; cases x <;> cases y <;> cases z <;> kernel_rfl
              · rintro y z a w hSw ⟨vx, vy, vz, rfl, bx, by_, bz⟩
                refine wpOp_step (i := 9) rfl (fun K hK => ?_)
                have HK : Shut _ := hK
                clear hK
                rw [HA0.out]
                simp only [Act.put, List.setIfInBounds_toArray, List.set_cons_zero, List.set_cons_succ]
                go_simp
                exact HK.out _ _ ⟨bel_on (Nat.le_refl _) hSw (al1_b w zCpu), _, vy, vz, (by rw [HA0.out]; simp only [Act.put, List.setIfInBounds_toArray, List.set_cons_zero, List.set_cons_succ]), VB.new hSw, by_.on (al1_b w zCpu), bz.on (al1_b w zCpu)⟩
              · rintro x z a w hSw ⟨vx, vy, vz, rfl, bx, by_, bz⟩
                refine wpOp_step (i := 10) rfl (fun K hK => ?_)
                have HK : Shut _ := hK
                clear hK
                rw [HA0.out]
                simp only [Act.put, List.setIfInBounds_toArray, List.set_cons_zero, List.set_cons_succ]
                go_simp
                exact HK.out _ _ ⟨bel_on (Nat.le_refl _) hSw (al1_b w zAr), vx, _, vz, (by rw [HA0.out]; simp only [Act.put, List.setIfInBounds_toArray, List.set_cons_zero, List.set_cons_succ]), bx.on (al1_b w zAr), VB.new hSw, bz.on (al1_b w zAr)⟩
              · rintro x y a w hSw ⟨vx, vy, vz, rfl, bx, by_, bz⟩
                refine wpOp_step (i := 11) rfl (fun K hK => ?_)
                have HK : Shut _ := hK
                clear hK
                rw [HA0.out]
                simp only [Act.put, List.setIfInBounds_toArray, List.set_cons_zero, List.set_cons_succ]
                go_simp
                exact HK.out _ _ ⟨bel_on (Nat.le_refl _) hSw (al1_b w zEf), vx, vy, _, (by rw [HA0.out]; simp only [Act.put, List.setIfInBounds_toArray, List.set_cons_zero, List.set_cons_succ]), bx.on (al1_b w zEf), by_.on (al1_b w zEf), VB.new hSw⟩
              · rintro x y z a w hSw ⟨vx, vy, vz, rfl, bx, by_, bz⟩
                refine wpOp_step (i := 2) rfl (fun K hK => ?_)
                have HK : Shut _ := hK
                clear hK
                rw [HA0.out]
                simp only [Act.put, List.setIfInBounds_toArray, List.set_cons_zero, List.set_cons_succ]
                go_simp
                go_at_call 38
                refine (newI _).mono ?_
                rintro e w8 ⟨gz, rfl, hg8, hrow8, hb8⟩
                go_wp2_with fail
                exact HK.out _ _ ⟨bel_on (Nat.le_refl _) hSw (hb8), vx, vy, vz, gz, (by rw [HA0.out]; simp only [Act.put, List.setIfInBounds_toArray, List.set_cons_zero, List.set_cons_succ]), hrow8, bx.on (hb8), by_.on (hb8), bz.on (hb8)⟩
              refine stage3 (i1 := 9) (i2 := 10) (i3 := 11) (c := 4) (fun x y z => #[true, true, true, true, false, false, false, false, false, x, y, z, false, false, false]) (fun x y z => #[true, true, true, true, true, false, false, false, false, x, y, z, false, false, false]) (fun x y z a w => ∃ (vx vy vz : Value) (gz : Nat), a = ((((a0.put (some 53) (.agg #[.slice (some ⟨gz, 0, none⟩) 64 64])).put (some 12) vx).put (some 13) vy).put (some 14) vz) ∧ Hid (RowAt w gz z64) ∧ VB wi x vx w zCpu ∧ VB wi y vy w zAr ∧ VB wi z vz w zEf) (fun x y z a w => ∃ (vx vy vz : Value) (gz : Nat) (gs : Nat) (cs : Nat) (ga : Nat) (ca : Nat), a = (((((a0.put (some 53) (.agg #[.slice (some ⟨gz, 0, none⟩) 64 64])).put (some 55) (.tuple #[.agg #[.int .i64 ((sRes op na nb (j + 1)) : Res).pc, .slice (some ⟨gs, 0, none⟩) (sSt op na nb (j + 1)).length cs], .agg #[.slice (some ⟨ga, 0, none⟩) 64 ca], .agg #[.int .i64 ((sRes op na nb (j + 1)) : Res).k, .int .i64 ((sRes op na nb (j + 1)) : Res).po, .int .i64 ((sRes op na nb (j + 1)) : Res).nu, .int .i64 ((sRes op na nb (j + 1)) : Res).tr]])).put (some 12) vx).put (some 13) vy).put (some 14) vz) ∧ Hid (RowAt w gz z64) ∧ Hid (OwnN w wi.heap.size gs (sSt op na nb (j + 1)).length cs ((sRes op na nb (j + 1)) : Res).st) ∧ Hid (OwnN w wi.heap.size ga 64 ca ((sRes op na nb (j + 1)) : Res).ce) ∧ Hid (gs ≠ ga) ∧ VB wi x vx w zCpu ∧ VB wi y vy w zAr ∧ VB wi z vz w zEf) 7 ?_ ?_ ?_ ?_ ?_ ?_ ?_ ?_ ?_ ?_ ?_
              · intro x y z i hi
                cases x <;> cases y <;> cases z
                · have e_ := mem_kernel (rs := [4, 9, 10, 11]) (by kernel_rfl) hi; (first | (simp at e_ ⊢; done) | (simp at e_ ⊢; omega))
                · have e_ := mem_kernel (rs := [4, 9, 10]) (by kernel_rfl) hi; (first | (simp at e_ ⊢; done) | (simp at e_ ⊢; omega))
                · have e_ := mem_kernel (rs := [4, 9, 11]) (by kernel_rfl) hi; (first | (simp at e_ ⊢; done) | (simp at e_ ⊢; omega))
                · have e_ := mem_kernel (rs := [4, 9]) (by kernel_rfl) hi; (first | (simp at e_ ⊢; done) | (simp at e_ ⊢; omega))
                · have e_ := mem_kernel (rs := [4, 10, 11]) (by kernel_rfl) hi; (first | (simp at e_ ⊢; done) | (simp at e_ ⊢; omega))
                · have e_ := mem_kernel (rs := [4, 10]) (by kernel_rfl) hi; (first | (simp at e_ ⊢; done) | (simp at e_ ⊢; omega))
                · have e_ := mem_kernel (rs := [4, 11]) (by kernel_rfl) hi; (first | (simp at e_ ⊢; done) | (simp at e_ ⊢; omega))
                · have e_ := mem_kernel (rs := [4]) (by kernel_rfl) hi; (first | (simp at e_ ⊢; done) | (simp at e_ ⊢; omega))
              · intro x y z
                cases x <;> cases y <;> cases z
                · exact ne_kernel (rs := [4, 9, 10, 11]) (by kernel_rfl) (by simp)
                · exact ne_kernel (rs := [4, 9, 10]) (by kernel_rfl) (by simp)
                · exact ne_kernel (rs := [4, 9, 11]) (by kernel_rfl) (by simp)
                · exact ne_kernel (rs := [4, 9]) (by kernel_rfl) (by simp)
                · exact ne_kernel (rs := [4, 10, 11]) (by kernel_rfl) (by simp)
                · exact ne_kernel (rs := [4, 10]) (by kernel_rfl) (by simp)
                · exact ne_kernel (rs := [4, 11]) (by kernel_rfl) (by simp)
                · exact ne_kernel (rs := [4]) (by kernel_rfl) (by simp)
              · intro x y; cases x <;> cases y <;> kernel_rfl
              · intro x y; cases x <;> cases y <;> kernel_rfl
              · intro x y; cases x <;> cases y <;> kernel_rfl
              · intro x y z; cases x <;> cases y <;> cases z <;> kernel_rfl
              · rintro y z a w hSw ⟨vx, vy, vz, gz, rfl, Hz, bx, by_, bz⟩
                refine wpOp_step (i := 9) rfl (fun K hK => ?_)
                have HK : Shut _ := hK
                clear hK
                rw [HA0.out]
                simp only [Act.put, List.setIfInBounds_toArray, List.set_cons_zero, List.set_cons_succ]
                go_simp
                exact HK.out _ _ ⟨bel_on (Nat.le_refl _) hSw (al1_b w zCpu), _, vy, vz, gz, (by rw [HA0.out]; simp only [Act.put, List.setIfInBounds_toArray, List.set_cons_zero, List.set_cons_succ]), RowAt.on Hz.out (al1_b w zCpu), VB.new hSw, by_.on (al1_b w zCpu), bz.on (al1_b w zCpu)⟩
              · rintro x z a w hSw ⟨vx, vy, vz, gz, rfl, Hz, bx, by_, bz⟩
                refine wpOp_step (i := 10) rfl (fun K hK => ?_)
                have HK : Shut _ := hK
                clear hK
                rw [HA0.out]
                simp only [Act.put, List.setIfInBounds_toArray, List.set_cons_zero, List.set_cons_succ]
                go_simp
                exact HK.out _ _ ⟨bel_on (Nat.le_refl _) hSw (al1_b w zAr), vx, _, vz, gz, (by rw [HA0.out]; simp only [Act.put, List.setIfInBounds_toArray, List.set_cons_zero, List.set_cons_succ]), RowAt.on Hz.out (al1_b w zAr), bx.on (al1_b w zAr), VB.new hSw, bz.on (al1_b w zAr)⟩
              · rintro x y a w hSw ⟨vx, vy, vz, gz, rfl, Hz, bx, by_, bz⟩
                refine wpOp_step (i := 11) rfl (fun K hK => ?_)
                have HK : Shut _ := hK
                clear hK
                rw [HA0.out]
                simp only [Act.put, List.setIfInBounds_toArray, List.set_cons_zero, List.set_cons_succ]
                go_simp
                exact HK.out _ _ ⟨bel_on (Nat.le_refl _) hSw (al1_b w zEf), vx, vy, _, gz, (by rw [HA0.out]; simp only [Act.put, List.setIfInBounds_toArray, List.set_cons_zero, List.set_cons_succ]), RowAt.on Hz.out (al1_b w zEf), bx.on (al1_b w zEf), by_.on (al1_b w zEf), VB.new hSw⟩
              · rintro x y z a w hSw ⟨vx, vy, vz, gz, rfl, Hz, bx, by_, bz⟩
                refine wpOp_step (i := 4) rfl (fun K hK => ?_)
                have HK : Shut _ := hK
                clear hK
                rw [HA0.out]
                simp only [Act.put, List.setIfInBounds_toArray, List.set_cons_zero, List.set_cons_succ]
                go_simp
                go_at_call 22
                refine (sstep op na nb ho ha0 hb0 j hj q (sSt op na nb j).length c rfl wr.heap.size (some ⟨gz, 0, none⟩) 64 _ (HR.out.on hSw) (I.RowR.on HL.out hSw) Hz.out.rd).mono ?_
                rintro e w9 ⟨gs, cs, ga, ca, rfl, hs9, ha9, hne9, hb9⟩
                go_wp2_with fail
                exact HK.out _ _ ⟨bel_on (Nat.le_refl _) hSw (hb9), vx, vy, vz, gz, gs, cs, ga, ca, (by rw [HA0.out]; simp only [Act.put, List.setIfInBounds_toArray, List.set_cons_zero, List.set_cons_succ]), RowAt.on Hz.out (hb9), hs9.mono hSw.size, ha9.mono hSw.size, hne9, bx.on (hb9), by_.on (hb9), bz.on (hb9)⟩
              refine stageT (i := 5) rfl (by kernel_rfl) (fun x y z => #[true, true, true, true, true, false, false, false, false, x, y, z, false, false, false]) (fun x y z => #[true, true, true, true, true, true, false, false, false, x, y, z, false, false, false]) (fun x y z a w => ∃ (vx vy vz : Value) (gz : Nat) (gs : Nat) (cs : Nat) (ga : Nat) (ca : Nat), a = (((((a0.put (some 53) (.agg #[.slice (some ⟨gz, 0, none⟩) 64 64])).put (some 55) (.tuple #[.agg #[.int .i64 ((sRes op na nb (j + 1)) : Res).pc, .slice (some ⟨gs, 0, none⟩) (sSt op na nb (j + 1)).length cs], .agg #[.slice (some ⟨ga, 0, none⟩) 64 ca], .agg #[.int .i64 ((sRes op na nb (j + 1)) : Res).k, .int .i64 ((sRes op na nb (j + 1)) : Res).po, .int .i64 ((sRes op na nb (j + 1)) : Res).nu, .int .i64 ((sRes op na nb (j + 1)) : Res).tr]])).put (some 12) vx).put (some 13) vy).put (some 14) vz) ∧ Hid (RowAt w gz z64) ∧ Hid (OwnN w wi.heap.size gs (sSt op na nb (j + 1)).length cs ((sRes op na nb (j + 1)) : Res).st) ∧ Hid (OwnN w wi.heap.size ga 64 ca ((sRes op na nb (j + 1)) : Res).ce) ∧ Hid (gs ≠ ga) ∧ VB wi x vx w zCpu ∧ VB wi y vy w zAr ∧ VB wi z vz w zEf) (fun x y z a w => ∃ (vx vy vz : Value) (gz : Nat) (gs : Nat) (cs : Nat) (ga : Nat) (ca : Nat), a = ((((((a0.put (some 53) (.agg #[.slice (some ⟨gz, 0, none⟩) 64 64])).put (some 55) (.tuple #[.agg #[.int .i64 ((sRes op na nb (j + 1)) : Res).pc, .slice (some ⟨gs, 0, none⟩) (sSt op na nb (j + 1)).length cs], .agg #[.slice (some ⟨ga, 0, none⟩) 64 ca], .agg #[.int .i64 ((sRes op na nb (j + 1)) : Res).k, .int .i64 ((sRes op na nb (j + 1)) : Res).po, .int .i64 ((sRes op na nb (j + 1)) : Res).nu, .int .i64 ((sRes op na nb (j + 1)) : Res).tr]])).put (some 50) (.tuple #[.agg #[.int .i64 ((sRes op na nb (j + 1)) : Res).pc, .slice (some ⟨gs, 0, none⟩) (sSt op na nb (j + 1)).length cs], .agg #[.slice (some ⟨ga, 0, none⟩) 64 ca], .agg #[.int .i64 ((sRes op na nb (j + 1)) : Res).k, .int .i64 ((sRes op na nb (j + 1)) : Res).po, .int .i64 ((sRes op na nb (j + 1)) : Res).nu, .int .i64 ((sRes op na nb (j + 1)) : Res).tr]])).put (some 12) vx).put (some 13) vy).put (some 14) vz) ∧ Hid (RowAt w gz z64) ∧ Hid (OwnN w wi.heap.size gs (sSt op na nb (j + 1)).length cs ((sRes op na nb (j + 1)) : Res).st) ∧ Hid (OwnN w wi.heap.size ga 64 ca ((sRes op na nb (j + 1)) : Res).ce) ∧ Hid (gs ≠ ga) ∧ VB wi x vx w zCpu ∧ VB wi y vy w zAr ∧ VB wi z vz w zEf) 6 ?_ ?_ ?_ ?_ ?_ ?_
              · intro x y z; cases x <;> cases y <;> cases z <;> kernel_rfl
              · intro x y z; cases x <;> cases y <;> cases z <;> kernel_rfl
              · intro x y z; cases x <;> cases y <;> cases z <;> kernel_rfl
              · exact fun _ _ _ _ h => h
              · rintro x y z a w hSw ⟨vx, vy, vz, gz, gs, cs, ga, ca, rfl, Hz, Hs, Ha, Hn, bx, by_, bz⟩
                refine ⟨.tuple #[.agg #[.int .i64 ((sRes op na nb (j + 1)) : Res).pc, .slice (some ⟨gs, 0, none⟩) (sSt op na nb (j + 1)).length cs], .agg #[.slice (some ⟨ga, 0, none⟩) 64 ca], .agg #[.int .i64 ((sRes op na nb (j + 1)) : Res).k, .int .i64 ((sRes op na nb (j + 1)) : Res).po, .int .i64 ((sRes op na nb (j + 1)) : Res).nu, .int .i64 ((sRes op na nb (j + 1)) : Res).tr]], Or.inl ⟨by rw [HA0.out]; rfl, ?_⟩, vx, vy, vz, gz, gs, cs, ga, ca, (by rw [HA0.out]; simp only [Act.put, List.setIfInBounds_toArray, List.set_cons_zero, List.set_cons_succ, List.getElem_toArray, List.getElem_cons_zero, List.getElem_cons_succ]), Hz, Hs, Ha, Hn, bx, by_, bz⟩
                rw [HA0.out]
                simp only [Act.put, List.setIfInBounds_toArray, List.set_cons_zero, List.set_cons_succ]
                intro w hSw; go_simp <;> with_reducible rfl
              refine stageT (i := 6) rfl (by kernel_rfl) (fun x y z => #[true, true, true, true, true, true, false, false, false, x, y, z, false, false, false]) (fun x y z => #[true, true, true, true, true, true, true, false, false, x, y, z, false, false, false]) (fun x y z a w => ∃ (vx vy vz : Value) (gz : Nat) (gs : Nat) (cs : Nat) (ga : Nat) (ca : Nat), a = ((((((a0.put (some 53) (.agg #[.slice (some ⟨gz, 0, none⟩) 64 64])).put (some 55) (.tuple #[.agg #[.int .i64 ((sRes op na nb (j + 1)) : Res).pc, .slice (some ⟨gs, 0, none⟩) (sSt op na nb (j + 1)).length cs], .agg #[.slice (some ⟨ga, 0, none⟩) 64 ca], .agg #[.int .i64 ((sRes op na nb (j + 1)) : Res).k, .int .i64 ((sRes op na nb (j + 1)) : Res).po, .int .i64 ((sRes op na nb (j + 1)) : Res).nu, .int .i64 ((sRes op na nb (j + 1)) : Res).tr]])).put (some 50) (.tuple #[.agg #[.int .i64 ((sRes op na nb (j + 1)) : Res).pc, .slice (some ⟨gs, 0, none⟩) (sSt op na nb (j + 1)).length cs], .agg #[.slice (some ⟨ga, 0, none⟩) 64 ca], .agg #[.int .i64 ((sRes op na nb (j + 1)) : Res).k, .int .i64 ((sRes op na nb (j + 1)) : Res).po, .int .i64 ((sRes op na nb (j + 1)) : Res).nu, .int .i64 ((sRes op na nb (j + 1)) : Res).tr]])).put (some 12) vx).put (some 13) vy).put (some 14) vz) ∧ Hid (RowAt w gz z64) ∧ Hid (OwnN w wi.heap.size gs (sSt op na nb (j + 1)).length cs ((sRes op na nb (j + 1)) : Res).st) ∧ Hid (OwnN w wi.heap.size ga 64 ca ((sRes op na nb (j + 1)) : Res).ce) ∧ Hid (gs ≠ ga) ∧ VB wi x vx w zCpu ∧ VB wi y vy w zAr ∧ VB wi z vz w zEf) (fun x y z a w => ∃ (vx vy vz : Value) (gz : Nat) (gs : Nat) (cs : Nat) (ga : Nat) (ca : Nat), a = (((((((a0.put (some 53) (.agg #[.slice (some ⟨gz, 0, none⟩) 64 64])).put (some 55) (.tuple #[.agg #[.int .i64 ((sRes op na nb (j + 1)) : Res).pc, .slice (some ⟨gs, 0, none⟩) (sSt op na nb (j + 1)).length cs], .agg #[.slice (some ⟨ga, 0, none⟩) 64 ca], .agg #[.int .i64 ((sRes op na nb (j + 1)) : Res).k, .int .i64 ((sRes op na nb (j + 1)) : Res).po, .int .i64 ((sRes op na nb (j + 1)) : Res).nu, .int .i64 ((sRes op na nb (j + 1)) : Res).tr]])).put (some 50) (.tuple #[.agg #[.int .i64 ((sRes op na nb (j + 1)) : Res).pc, .slice (some ⟨gs, 0, none⟩) (sSt op na nb (j + 1)).length cs], .agg #[.slice (some ⟨ga, 0, none⟩) 64 ca], .agg #[.int .i64 ((sRes op na nb (j + 1)) : Res).k, .int .i64 ((sRes op na nb (j + 1)) : Res).po, .int .i64 ((sRes op na nb (j + 1)) : Res).nu, .int .i64 ((sRes op na nb (j + 1)) : Res).tr]])).put (some 56) (.agg #[.int .i64 (sRes op na nb (j + 1)).pc, .slice (some ⟨gs, 0, none⟩) (sSt op na nb (j + 1)).length cs])).put (some 12) vx).put (some 13) vy).put (some 14) vz) ∧ Hid (RowAt w gz z64) ∧ Hid (OwnN w wi.heap.size gs (sSt op na nb (j + 1)).length cs ((sRes op na nb (j + 1)) : Res).st) ∧ Hid (OwnN w wi.heap.size ga 64 ca ((sRes op na nb (j + 1)) : Res).ce) ∧ Hid (gs ≠ ga) ∧ VB wi x vx w zCpu ∧ VB wi y vy w zAr ∧ VB wi z vz w zEf) 5 ?_ ?_ ?_ ?_ ?_ ?_
              · intro x y z; cases x <;> cases y <;> cases z <;> kernel_rfl
              · intro x y z; cases x <;> cases y <;> cases z <;> kernel_rfl
              · intro x y z; cases x <;> cases y <;> cases z <;> kernel_rfl
              · exact fun _ _ _ _ h => h
              · rintro x y z a w hSw ⟨vx, vy, vz, gz, gs, cs, ga, ca, rfl, Hz, Hs, Ha, Hn, bx, by_, bz⟩
                refine ⟨.agg #[.int .i64 (sRes op na nb (j + 1)).pc, .slice (some ⟨gs, 0, none⟩) (sSt op na nb (j + 1)).length cs], Or.inl ⟨by rw [HA0.out]; rfl, ?_⟩, vx, vy, vz, gz, gs, cs, ga, ca, (by rw [HA0.out]; simp only [Act.put, List.setIfInBounds_toArray, List.set_cons_zero, List.set_cons_succ, List.getElem_toArray, List.getElem_cons_zero, List.getElem_cons_succ]), Hz, Hs, Ha, Hn, bx, by_, bz⟩
                rw [HA0.out]
                simp only [Act.put, List.setIfInBounds_toArray, List.set_cons_zero, List.set_cons_succ]
                intro w hSw; go_simp <;> with_reducible rfl
              refine stageT (i := 7) rfl (by kernel_rfl) (fun x y z => #[true, true, true, true, true, true, true, false, false, x, y, z, false, false, false]) (fun x y z => #[true, true, true, true, true, true, true, true, false, x, y, z, false, false, false]) (fun x y z a w => ∃ (vx vy vz : Value) (gz : Nat) (gs : Nat) (cs : Nat) (ga : Nat) (ca : Nat), a = (((((((a0.put (some 53) (.agg #[.slice (some ⟨gz, 0, none⟩) 64 64])).put (some 55) (.tuple #[.agg #[.int .i64 ((sRes op na nb (j + 1)) : Res).pc, .slice (some ⟨gs, 0, none⟩) (sSt op na nb (j + 1)).length cs], .agg #[.slice (some ⟨ga, 0, none⟩) 64 ca], .agg #[.int .i64 ((sRes op na nb (j + 1)) : Res).k, .int .i64 ((sRes op na nb (j + 1)) : Res).po, .int .i64 ((sRes op na nb (j + 1)) : Res).nu, .int .i64 ((sRes op na nb (j + 1)) : Res).tr]])).put (some 50) (.tuple #[.agg #[.int .i64 ((sRes op na nb (j + 1)) : Res).pc, .slice (some ⟨gs, 0, none⟩) (sSt op na nb (j + 1)).length cs], .agg #[.slice (some ⟨ga, 0, none⟩) 64 ca], .agg #[.int .i64 ((sRes op na nb (j + 1)) : Res).k, .int .i64 ((sRes op na nb (j + 1)) : Res).po, .int .i64 ((sRes op na nb (j + 1)) : Res).nu, .int .i64 ((sRes op na nb (j + 1)) : Res).tr]])).put (some 56) (.agg #[.int .i64 (sRes op na nb (j + 1)).pc, .slice (some ⟨gs, 0, none⟩) (sSt op na nb (j + 1)).length cs])).put (some 12) vx).put (some 13) vy).put (some 14) vz) ∧ Hid (RowAt w gz z64) ∧ Hid (OwnN w wi.heap.size gs (sSt op na nb (j + 1)).length cs ((sRes op na nb (j + 1)) : Res).st) ∧ Hid (OwnN w wi.heap.size ga 64 ca ((sRes op na nb (j + 1)) : Res).ce) ∧ Hid (gs ≠ ga) ∧ VB wi x vx w zCpu ∧ VB wi y vy w zAr ∧ VB wi z vz w zEf) (fun x y z a w => ∃ (vx vy vz : Value) (gz : Nat) (gs : Nat) (cs : Nat) (ga : Nat) (ca : Nat), a = ((((((((a0.put (some 53) (.agg #[.slice (some ⟨gz, 0, none⟩) 64 64])).put (some 55) (.tuple #[.agg #[.int .i64 ((sRes op na nb (j + 1)) : Res).pc, .slice (some ⟨gs, 0, none⟩) (sSt op na nb (j + 1)).length cs], .agg #[.slice (some ⟨ga, 0, none⟩) 64 ca], .agg #[.int .i64 ((sRes op na nb (j + 1)) : Res).k, .int .i64 ((sRes op na nb (j + 1)) : Res).po, .int .i64 ((sRes op na nb (j + 1)) : Res).nu, .int .i64 ((sRes op na nb (j + 1)) : Res).tr]])).put (some 50) (.tuple #[.agg #[.int .i64 ((sRes op na nb (j + 1)) : Res).pc, .slice (some ⟨gs, 0, none⟩) (sSt op na nb (j + 1)).length cs], .agg #[.slice (some ⟨ga, 0, none⟩) 64 ca], .agg #[.int .i64 ((sRes op na nb (j + 1)) : Res).k, .int .i64 ((sRes op na nb (j + 1)) : Res).po, .int .i64 ((sRes op na nb (j + 1)) : Res).nu, .int .i64 ((sRes op na nb (j + 1)) : Res).tr]])).put (some 56) (.agg #[.int .i64 (sRes op na nb (j + 1)).pc, .slice (some ⟨gs, 0, none⟩) (sSt op na nb (j + 1)).length cs])).put (some 57) (.agg #[.slice (some ⟨ga, 0, none⟩) 64 ca])).put (some 12) vx).put (some 13) vy).put (some 14) vz) ∧ Hid (RowAt w gz z64) ∧ Hid (OwnN w wi.heap.size gs (sSt op na nb (j + 1)).length cs ((sRes op na nb (j + 1)) : Res).st) ∧ Hid (OwnN w wi.heap.size ga 64 ca ((sRes op na nb (j + 1)) : Res).ce) ∧ Hid (gs ≠ ga) ∧ VB wi x vx w zCpu ∧ VB wi y vy w zAr ∧ VB wi z vz w zEf) 4 ?_ ?_ ?_ ?_ ?_ ?_
              · intro x y z; cases x <;> cases y <;> cases z <;> kernel_rfl
              · intro x y z; cases x <;> cases y <;> cases z <;> kernel_rfl
              · intro x y z; cases x <;> cases y <;> cases z <;> kernel_rfl
              · exact fun _ _ _ _ h => h
              · rintro x y z a w hSw ⟨vx, vy, vz, gz, gs, cs, ga, ca, rfl, Hz, Hs, Ha, Hn, bx, by_, bz⟩
                refine ⟨.agg #[.slice (some ⟨ga, 0, none⟩) 64 ca], Or.inl ⟨by rw [HA0.out]; rfl, ?_⟩, vx, vy, vz, gz, gs, cs, ga, ca, (by rw [HA0.out]; simp only [Act.put, List.setIfInBounds_toArray, List.set_cons_zero, List.set_cons_succ, List.getElem_toArray, List.getElem_cons_zero, List.getElem_cons_succ]), Hz, Hs, Ha, Hn, bx, by_, bz⟩
                rw [HA0.out]
                simp only [Act.put, List.setIfInBounds_toArray, List.set_cons_zero, List.set_cons_succ]
                intro w hSw; go_simp <;> with_reducible rfl
              refine stageT (i := 8) rfl (by kernel_rfl) (fun x y z => #[true, true, true, true, true, true, true, true, false, x, y, z, false, false, false]) (fun x y z => #[true, true, true, true, true, true, true, true, true, x, y, z, false, false, false]) (fun x y z a w => ∃ (vx vy vz : Value) (gz : Nat) (gs : Nat) (cs : Nat) (ga : Nat) (ca : Nat), a = ((((((((a0.put (some 53) (.agg #[.slice (some ⟨gz, 0, none⟩) 64 64])).put (some 55) (.tuple #[.agg #[.int .i64 ((sRes op na nb (j + 1)) : Res).pc, .slice (some ⟨gs, 0, none⟩) (sSt op na nb (j + 1)).length cs], .agg #[.slice (some ⟨ga, 0, none⟩) 64 ca], .agg #[.int .i64 ((sRes op na nb (j + 1)) : Res).k, .int .i64 ((sRes op na nb (j + 1)) : Res).po, .int .i64 ((sRes op na nb (j + 1)) : Res).nu, .int .i64 ((sRes op na nb (j + 1)) : Res).tr]])).put (some 50) (.tuple #[.agg #[.int .i64 ((sRes op na nb (j + 1)) : Res).pc, .slice (some ⟨gs, 0, none⟩) (sSt op na nb (j + 1)).length cs], .agg #[.slice (some ⟨ga, 0, none⟩) 64 ca], .agg #[.int .i64 ((sRes op na nb (j + 1)) : Res).k, .int .i64 ((sRes op na nb (j + 1)) : Res).po, .int .i64 ((sRes op na nb (j + 1)) : Res).nu, .int .i64 ((sRes op na nb (j + 1)) : Res).tr]])).put (some 56) (.agg #[.int .i64 (sRes op na nb (j + 1)).pc, .slice (some ⟨gs, 0, none⟩) (sSt op na nb (j + 1)).length cs])).put (some 57) (.agg #[.slice (some ⟨ga, 0, none⟩) 64 ca])).put (some 12) vx).put (some 13) vy).put (some 14) vz) ∧ Hid (RowAt w gz z64) ∧ Hid (OwnN w wi.heap.size gs (sSt op na nb (j + 1)).length cs ((sRes op na nb (j + 1)) : Res).st) ∧ Hid (OwnN w wi.heap.size ga 64 ca ((sRes op na nb (j + 1)) : Res).ce) ∧ Hid (gs ≠ ga) ∧ VB wi x vx w zCpu ∧ VB wi y vy w zAr ∧ VB wi z vz w zEf) (fun x y z a w => ∃ (vx vy vz : Value) (gz : Nat) (gs : Nat) (cs : Nat) (ga : Nat) (ca : Nat), a = (((((((((a0.put (some 53) (.agg #[.slice (some ⟨gz, 0, none⟩) 64 64])).put (some 55) (.tuple #[.agg #[.int .i64 ((sRes op na nb (j + 1)) : Res).pc, .slice (some ⟨gs, 0, none⟩) (sSt op na nb (j + 1)).length cs], .agg #[.slice (some ⟨ga, 0, none⟩) 64 ca], .agg #[.int .i64 ((sRes op na nb (j + 1)) : Res).k, .int .i64 ((sRes op na nb (j + 1)) : Res).po, .int .i64 ((sRes op na nb (j + 1)) : Res).nu, .int .i64 ((sRes op na nb (j + 1)) : Res).tr]])).put (some 50) (.tuple #[.agg #[.int .i64 ((sRes op na nb (j + 1)) : Res).pc, .slice (some ⟨gs, 0, none⟩) (sSt op na nb (j + 1)).length cs], .agg #[.slice (some ⟨ga, 0, none⟩) 64 ca], .agg #[.int .i64 ((sRes op na nb (j + 1)) : Res).k, .int .i64 ((sRes op na nb (j + 1)) : Res).po, .int .i64 ((sRes op na nb (j + 1)) : Res).nu, .int .i64 ((sRes op na nb (j + 1)) : Res).tr]])).put (some 56) (.agg #[.int .i64 (sRes op na nb (j + 1)).pc, .slice (some ⟨gs, 0, none⟩) (sSt op na nb (j + 1)).length cs])).put (some 57) (.agg #[.slice (some ⟨ga, 0, none⟩) 64 ca])).put (some 58) (.agg #[.int .i64 (sRes op na nb (j + 1)).k, .int .i64 (sRes op na nb (j + 1)).po, .int .i64 (sRes op na nb (j + 1)).nu, .int .i64 (sRes op na nb (j + 1)).tr])).put (some 12) vx).put (some 13) vy).put (some 14) vz) ∧ Hid (RowAt w gz z64) ∧ Hid (OwnN w wi.heap.size gs (sSt op na nb (j + 1)).length cs ((sRes op na nb (j + 1)) : Res).st) ∧ Hid (OwnN w wi.heap.size ga 64 ca ((sRes op na nb (j + 1)) : Res).ce) ∧ Hid (gs ≠ ga) ∧ VB wi x vx w zCpu ∧ VB wi y vy w zAr ∧ VB wi z vz w zEf) 3 ?_ ?_ ?_ ?_ ?_ ?_
              · intro x y z; cases x <;> cases y <;> cases z <;> kernel_rfl
              · intro x y z; cases x <;> cases y <;> cases z <;> kernel_rfl
              · intro x y z; cases x <;> cases y <;> cases z <;> kernel_rfl
              · exact fun _ _ _ _ h => h
              · rintro x y z a w hSw ⟨vx, vy, vz, gz, gs, cs, ga, ca, rfl, Hz, Hs, Ha, Hn, bx, by_, bz⟩
                refine ⟨.agg #[.int .i64 (sRes op na nb (j + 1)).k, .int .i64 (sRes op na nb (j + 1)).po, .int .i64 (sRes op na nb (j + 1)).nu, .int .i64 (sRes op na nb (j + 1)).tr], Or.inl ⟨by rw [HA0.out]; rfl, ?_⟩, vx, vy, vz, gz, gs, cs, ga, ca, (by rw [HA0.out]; simp only [Act.put, List.setIfInBounds_toArray, List.set_cons_zero, List.set_cons_succ, List.getElem_toArray, List.getElem_cons_zero, List.getElem_cons_succ]), Hz, Hs, Ha, Hn, bx, by_, bz⟩
                rw [HA0.out]
                simp only [Act.put, List.setIfInBounds_toArray, List.set_cons_zero, List.set_cons_succ]
                intro w hSw; go_simp <;> with_reducible rfl
              refine stage3e (i1 := 9) (i2 := 10) (i3 := 11) (fun x y z => #[true, true, true, true, true, true, true, true, true, x, y, z, false, false, false]) (fun x y z a w => ∃ (vx vy vz : Value) (gz : Nat) (gs : Nat) (cs : Nat) (ga : Nat) (ca : Nat), a = (((((((((a0.put (some 53) (.agg #[.slice (some ⟨gz, 0, none⟩) 64 64])).put (some 55) (.tuple #[.agg #[.int .i64 ((sRes op na nb (j + 1)) : Res).pc, .slice (some ⟨gs, 0, none⟩) (sSt op na nb (j + 1)).length cs], .agg #[.slice (some ⟨ga, 0, none⟩) 64 ca], .agg #[.int .i64 ((sRes op na nb (j + 1)) : Res).k, .int .i64 ((sRes op na nb (j + 1)) : Res).po, .int .i64 ((sRes op na nb (j + 1)) : Res).nu, .int .i64 ((sRes op na nb (j + 1)) : Res).tr]])).put (some 50) (.tuple #[.agg #[.int .i64 ((sRes op na nb (j + 1)) : Res).pc, .slice (some ⟨gs, 0, none⟩) (sSt op na nb (j + 1)).length cs], .agg #[.slice (some ⟨ga, 0, none⟩) 64 ca], .agg #[.int .i64 ((sRes op na nb (j + 1)) : Res).k, .int .i64 ((sRes op na nb (j + 1)) : Res).po, .int .i64 ((sRes op na nb (j + 1)) : Res).nu, .int .i64 ((sRes op na nb (j + 1)) : Res).tr]])).put (some 56) (.agg #[.int .i64 (sRes op na nb (j + 1)).pc, .slice (some ⟨gs, 0, none⟩) (sSt op na nb (j + 1)).length cs])).put (some 57) (.agg #[.slice (some ⟨ga, 0, none⟩) 64 ca])).put (some 58) (.agg #[.int .i64 (sRes op na nb (j + 1)).k, .int .i64 (sRes op na nb (j + 1)).po, .int .i64 (sRes op na nb (j + 1)).nu, .int .i64 (sRes op na nb (j + 1)).tr])).put (some 12) vx).put (some 13) vy).put (some 14) vz) ∧ Hid (RowAt w gz z64) ∧ Hid (OwnN w wi.heap.size gs (sSt op na nb (j + 1)).length cs ((sRes op na nb (j + 1)) : Res).st) ∧ Hid (OwnN w wi.heap.size ga 64 ca ((sRes op na nb (j + 1)) : Res).ce) ∧ Hid (gs ≠ ga) ∧ VB wi x vx w zCpu ∧ VB wi y vy w zAr ∧ VB wi z vz w zEf) 3 ?_ ?_ ?_ ?_ ?_ ?_ ?_ ?_ ?_
              · intro x y z hp i hi
                cases x <;> cases y <;> cases z
                · have e_ := mem_kernel (rs := [9, 10, 11]) (by kernel_rfl) hi; (first | (simp at e_ ⊢; done) | (simp at e_ ⊢; omega))
                · have e_ := mem_kernel (rs := [9, 10]) (by kernel_rfl) hi; (first | (simp at e_ ⊢; done) | (simp at e_ ⊢; omega))
                · have e_ := mem_kernel (rs := [9, 11]) (by kernel_rfl) hi; (first | (simp at e_ ⊢; done) | (simp at e_ ⊢; omega))
                · have e_ := mem_kernel (rs := [9]) (by kernel_rfl) hi; (first | (simp at e_ ⊢; done) | (simp at e_ ⊢; omega))
                · have e_ := mem_kernel (rs := [10, 11]) (by kernel_rfl) hi; (first | (simp at e_ ⊢; done) | (simp at e_ ⊢; omega))
                · have e_ := mem_kernel (rs := [10]) (by kernel_rfl) hi; (first | (simp at e_ ⊢; done) | (simp at e_ ⊢; omega))
                · have e_ := mem_kernel (rs := [11]) (by kernel_rfl) hi; (first | (simp at e_ ⊢; done) | (simp at e_ ⊢; omega))
                · simp at hp
              · intro x y z
                cases x <;> cases y <;> cases z
                · exact ne_kernel (rs := [9, 10, 11]) (by kernel_rfl) (by simp)
                · exact ne_kernel (rs := [9, 10]) (by kernel_rfl) (by simp)
                · exact ne_kernel (rs := [9, 11]) (by kernel_rfl) (by simp)
                · exact ne_kernel (rs := [9]) (by kernel_rfl) (by simp)
                · exact ne_kernel (rs := [10, 11]) (by kernel_rfl) (by simp)
                · exact ne_kernel (rs := [10]) (by kernel_rfl) (by simp)
                · exact ne_kernel (rs := [11]) (by kernel_rfl) (by simp)
                · exact ne_kernel (rs := [12]) (by kernel_rfl) (by simp)
              · intro x y; cases x <;> cases y <;> kernel_rfl
              · intro x y; cases x <;> cases y <;> kernel_rfl
              · intro x y; cases x <;> cases y <;> kernel_rfl
              · rintro y z a w hSw ⟨vx, vy, vz, gz, gs, cs, ga, ca, rfl, Hz, Hs, Ha, Hn, bx, by_, bz⟩
                refine wpOp_step (i := 9) rfl (fun K hK => ?_)
                have HK : Shut _ := hK
                clear hK
                rw [HA0.out]
                simp only [Act.put, List.setIfInBounds_toArray, List.set_cons_zero, List.set_cons_succ]
                go_simp
                exact HK.out _ _ ⟨bel_on (Nat.le_refl _) hSw (al1_b w zCpu), _, vy, vz, gz, gs, cs, ga, ca, (by rw [HA0.out]; simp only [Act.put, List.setIfInBounds_toArray, List.set_cons_zero, List.set_cons_succ]), RowAt.on Hz.out (al1_b w zCpu), Hs.out.on (al1_b w zCpu), Ha.out.on (al1_b w zCpu), Hn.out, VB.new hSw, by_.on (al1_b w zCpu), bz.on (al1_b w zCpu)⟩
              · rintro x z a w hSw ⟨vx, vy, vz, gz, gs, cs, ga, ca, rfl, Hz, Hs, Ha, Hn, bx, by_, bz⟩
                refine wpOp_step (i := 10) rfl (fun K hK => ?_)
                have HK : Shut _ := hK
                clear hK
                rw [HA0.out]
                simp only [Act.put, List.setIfInBounds_toArray, List.set_cons_zero, List.set_cons_succ]
                go_simp
                exact HK.out _ _ ⟨bel_on (Nat.le_refl _) hSw (al1_b w zAr), vx, _, vz, gz, gs, cs, ga, ca, (by rw [HA0.out]; simp only [Act.put, List.setIfInBounds_toArray, List.set_cons_zero, List.set_cons_succ]), RowAt.on Hz.out (al1_b w zAr), Hs.out.on (al1_b w zAr), Ha.out.on (al1_b w zAr), Hn.out, bx.on (al1_b w zAr), VB.new hSw, bz.on (al1_b w zAr)⟩
              · rintro x y a w hSw ⟨vx, vy, vz, gz, gs, cs, ga, ca, rfl, Hz, Hs, Ha, Hn, bx, by_, bz⟩
                refine wpOp_step (i := 11) rfl (fun K hK => ?_)
                have HK : Shut _ := hK
                clear hK
                rw [HA0.out]
                simp only [Act.put, List.setIfInBounds_toArray, List.set_cons_zero, List.set_cons_succ]
                go_simp
                exact HK.out _ _ ⟨bel_on (Nat.le_refl _) hSw (al1_b w zEf), vx, vy, _, gz, gs, cs, ga, ca, (by rw [HA0.out]; simp only [Act.put, List.setIfInBounds_toArray, List.set_cons_zero, List.set_cons_succ]), RowAt.on Hz.out (al1_b w zEf), Hs.out.on (al1_b w zEf), Ha.out.on (al1_b w zEf), Hn.out, bx.on (al1_b w zEf), by_.on (al1_b w zEf), VB.new hSw⟩
              · rintro f a w hf hSw ⟨vx, vy, vz, gz, gs, cs, ga, ca, rfl, Hz, Hs, Ha, Hn, bx, by_, bz⟩
                obtain ⟨f2, rfl⟩ : ∃ f2, f = f2 + 3 := ⟨f - 3, by omega⟩
                obtain ⟨b1, rfl, hz1, l1⟩ := bx rfl
                obtain ⟨b2, rfl, hz2, l2⟩ := by_ rfl
                obtain ⟨b3, rfl, hz3, l3⟩ := bz rfl
                have kz1 := row2_cells hz1
                have kz2 := row1_cells hz2
                have kz3 := row4_cells hz3
                have m12 := row_ne hz1 hz2 (by intro e; cases e)
                have m13 := row_ne hz1 hz3 (by intro e; cases e)
                have m23 := row_ne hz2 hz3 (by intro e; cases e)
                have m21 := m12.symm
                have m31 := m13.symm
                have m32 := m23.symm
                rw [HA0.out]
                simp only [Act.put, List.setIfInBounds_toArray, List.set_cons_zero, List.set_cons_succ]
                refine wpAnyH_ready (rs := [12]) (by kernel_rfl) (by simp) ?_
                refine AllReadyH.cons rfl (fun K hK => ?_) AllReadyH.nil
                go_simp
                refine hK.out _ _ ?_ (fun hHeld2 => ?_)
                · exact (Below.setCell (Below.setCell hSw l1 _) l1 _)
                have hT1 := hHeld2
                clear hHeld2 hK K
                refine wpAnyH_ready (rs := [13]) (by kernel_rfl) (by simp) ?_
                refine AllReadyH.cons rfl (fun K hK => ?_) AllReadyH.nil
                go_simp
                refine hK.out _ _ ?_ (fun hHeld2 => ?_)
                · exact (Below.setCell hT1 l2 _)
                have hT2 := hHeld2
                clear hHeld2 hK K
                refine wpAnyH_ready (rs := [14]) (by kernel_rfl) (by simp) ?_
                refine AllReadyH.cons rfl (fun K hK => ?_) AllReadyH.nil
                go_simp
                refine hK.out _ _ ?_ (fun hHeld2 => ?_)
                · exact (Below.setCell (Below.setCell (Below.setCell (Below.setCell hT2 l3 _) l3 _) l3 _) l3 _)
                have hT3 := hHeld2
                clear hHeld2 hK K
                refine wpAnyH_done (by kernel_rfl) ?_ _
                (try go_wp2_with fail)
                go_meet
                refine ⟨b1, b2, b3, gs, cs, ga, ca, rfl, rfl, rfl, hid ?_⟩
                with_reducible exact out_stores (R := (sRes op na nb (j + 1))) hz1 hz2 hz3 Hs.out Ha.out Hn.out l1 l2 l3 hSw
          case rest =>
          rename World => w9
          obtain ⟨b1_9, b2_9, b3_9, gs9, cs9, ga9, ca9, rfl, rfl, rfl, HB9⟩ := hcut
          have HO9 : Hid (_ = _) := row_on HO.out HB9.out.bel
          have HL9 : Hid (I.RowR _ _ _) := I.RowR.on HL.out HB9.out.bel
          have HC9 : Hid (_ = _) := row_on HC.out HB9.out.bel
          have HW9 : Hid (Below w0.heap.size w0 w9) := bel_on (Nat.le_refl _) HW.out HB9.out.bel
          have hltC : wr.heap.size + 1 < wi.heap.size := row_lt HC.out
          have HLB : Hid (wi.heap.size ≤ b1_9 ∧ wi.heap.size ≤ b3_9 ∧ wi.heap.size ≤ gs9) := ⟨HB9.out.2.2.2.2.2.2.1, HB9.out.2.2.2.2.2.2.2.2.1, HB9.out.2.2.2.1.ge⟩
          have HS9 : Hid (OwnN w9 wi.heap.size gs9 ((sSt op na nb (j + 1)).length) cs9 (sSt op na nb (j + 1))) := HB9.out.2.2.2.1
          have kx1 := row2_cells HB9.out.1
          have kx3 := row4_cells HB9.out.2.2.1
          have kC := row2_cells HC9.out
          have m_b1_9 : ¬ b1_9 = wr.heap.size + 1 := by have := HLB.out; omega
          have n_b1_9 : ¬ wr.heap.size + 1 = b1_9 := by have := HLB.out; omega
          have m_b3_9 : ¬ b3_9 = wr.heap.size + 1 := by have := HLB.out; omega
          have n_b3_9 : ¬ wr.heap.size + 1 = b3_9 := by have := HLB.out; omega
          have HCn : Hid (_ = _) := two_sets (x' := .int .i64 (sPc op nb (j + 1))) (y' := .slice (some ⟨gs9, 0, none⟩) ((sSt op na nb (j + 1)).length) cs9) HC9.out
          have HOn : Hid (_ = _) := set_other (k := wr.heap.size + 1) (i := 1) (x := .slice (some ⟨gs9, 0, none⟩) ((sSt op na nb (j + 1)).length) cs9) (set_other (k := wr.heap.size + 1) (i := 0) (x := .int .i64 (sPc op nb (j + 1))) HO9.out (by omega)) (by omega)
          have HLn : Hid (I.RowR _ _ _) := set_other (k := wr.heap.size + 1) (i := 1) (x := .slice (some ⟨gs9, 0, none⟩) ((sSt op na nb (j + 1)).length) cs9) (set_other (k := wr.heap.size + 1) (i := 0) (x := .int .i64 (sPc op nb (j + 1))) HL9.out (by omega)) (by omega)
          have HRn : Hid (Rd _ _ _) := ((HS9.out.set (k := wr.heap.size + 1) (i := 0) (x := .int .i64 (sPc op nb (j + 1))) (by have := HLB.out; omega)).set (k := wr.heap.size + 1) (i := 1) (x := .slice (some ⟨gs9, 0, none⟩) ((sSt op na nb (j + 1)).length) cs9) (by have := HLB.out; omega)).rd
          have HWn : Hid (Below _ _ _) := (HW9.out.setCell (p := ⟨wr.heap.size + 1, 0, none⟩) (by show w0.heap.size ≤ wr.heap.size + 1; have := HW0.out; omega) (.int .i64 (sPc op nb (j + 1)))).setCell (p := ⟨wr.heap.size + 1, 1, none⟩) (by show w0.heap.size ≤ wr.heap.size + 1; have := HW0.out; omega) (.slice (some ⟨gs9, 0, none⟩) ((sSt op na nb (j + 1)).length) cs9)
          clear HB9 HO9 HL9 HC9 HW9 HS9 HO HL HC HR HW Q0 Q1
          simp only [sRes] at kx1 kx3
          go_wp2
          go_roundw
          case rel => exact ⟨j + 1, some ⟨gs9, 0, none⟩, cs9, by go_num, by omega, rfl, HOn, HLn, HCn, HRn, HWn⟩
          case measure => first | (simp [intOf]; done) | (simp [intOf]; omega)
        · obtain rfl : j = 3 := by omega
          obtain ⟨M, hM0⟩ : ∃ M, na * nb = M := ⟨_, rfl⟩
          have hMr : 0 ≤ M ∧ M ≤ 65025 := by
            have h1 := Int.mul_nonneg ha0.1 hb0.1
            have h2 := Int.mul_le_mul (show na ≤ 255 by omega) (show nb ≤ 255 by omega) hb0.1 (by omega : (0 : Int) ≤ 255)
            omega
          have hX1 : M % 65536 = M := by omega
          have hX2 : M.tmod 65536 = M := by rw [Int.tmod_eq_emod_of_nonneg hMr.1]; exact hX1
          obtain ⟨Y, hY1⟩ : ∃ Y, (na - nb + 65536) % 65536 = Y := ⟨_, rfl⟩
          have hY2 : (na - nb + 65536).tmod 65536 = Y := by rw [Int.tmod_eq_emod_of_nonneg (by omega)]; exact hY1
          have HY : Hid ((na - nb) % 65536 = Y) := by show _ = _; omega
          have hlC : wr.heap.size + 1 < wi.heap.size := row_lt HC.out
          have ho' : op = 4 ∨ op = 5 ∨ op = 6 ∨ op = 7 ∨ op = 8 := by omega
          rcases ho' with rfl | rfl | rfl | rfl | rfl
          · obtain rfl : k = 0 := by have := HOP.out; omega
            have kO : wi.cell? ⟨w1.heap.size, 0, none⟩ = some (.int .i64 4) := by rw [cell_of_row wi w1.heap.size 0 _ 3 (0, 0) HO.out]; rfl
            by_cases hb1 : 0 < nb
            · by_cases hab : na < nb
              · skip
                obtain ⟨D, hD1⟩ : ∃ D, na.tdiv nb = D := ⟨_, rfl⟩
                have hDr := isW_div (x := nb) (y := na) ⟨by omega, by omega⟩ ⟨by omega, by omega⟩ (by omega)
                rw [hD1] at hDr
                have hD2 : na / nb = D := by rw [← hD1, Int.tdiv_eq_ediv_of_nonneg ha0.1]
                have hz : ¬ nb = 0 := by omega
                have eS : sSt 4 na nb 3 = [na + nb] := by show (if (4 : Int) = 7 ∧ nb = 0 then [na, nb] else [sV 4 na nb]) = _; rw [if_neg (fun h => by omega)]; exact congrArg (fun v => [v]) (show (na + nb) % 65536 = na + nb by omega)
                have eP : sPc 4 nb 3 = 3 := show (if (4 : Int) = 7 ∧ nb = 0 then (2 : Int) else 3) = 3 from if_neg (fun h => by omega)
                have eT : sTr 4 nb 3 = 0 := show (if (4 : Int) = 7 ∧ nb = 0 then (3 : Int) else 0) = 0 from if_neg (fun h => by omega)
                have HR2 : Hid (Rd wi q [na + nb]) := by have h_ := HR.out; rw [eS] at h_; exact h_
                have HC2 : Hid (wi.heap[wr.heap.size + 1]? = some (.cells #[.int .i64 3, .slice q 1 c] 27)) := by have h_ := HC.out; rw [eS, eP] at h_; exact h_
                rw [eT]
                obtain ⟨gq, oq, rfl, hq⟩ := HR2.out (by simp)
                have hq0 := hq 0 (by simp)
                rw [Nat.add_zero] at hq0
                have hqv : wi.cell? ⟨gq, oq, none⟩ = some (.int .i64 (na + nb)) := hq0
                have hgq : gq < wi.heap.size := World.block_lt_of_cell? wi ⟨gq, oq, none⟩ hqv
                have kC := row2_cells HC2.out
                have g1 : ¬ gq = wi.heap.size := by omega
                have g2 : ¬ wi.heap.size = gq := by omega
                have g3 : ¬ wr.heap.size + 1 = wi.heap.size := by omega
                have g4 : ¬ wi.heap.size = wr.heap.size + 1 := by omega
                clear hq hq0 eS eP eT HR HC HR2 HC2
                go_wp2_with fail
                go_quiet (fail)
                go_wp2
                go_roundw
                case rel => exact ⟨1, by go_num, by omega, row_on HO.out (below_drewN (al1_b wi _) _), bel_on (Nat.le_refl _) HW.out (below_drewN (al1_b wi _) _)⟩
                case measure => first | (simp [intOf]; done) | (simp [intOf]; omega)
              · skip
                obtain ⟨D, hD1⟩ : ∃ D, na.tdiv nb = D := ⟨_, rfl⟩
                have hDr := isW_div (x := nb) (y := na) ⟨by omega, by omega⟩ ⟨by omega, by omega⟩ (by omega)
                rw [hD1] at hDr
                have hD2 : na / nb = D := by rw [← hD1, Int.tdiv_eq_ediv_of_nonneg ha0.1]
                have hz : ¬ nb = 0 := by omega
                have eS : sSt 4 na nb 3 = [na + nb] := by show (if (4 : Int) = 7 ∧ nb = 0 then [na, nb] else [sV 4 na nb]) = _; rw [if_neg (fun h => by omega)]; exact congrArg (fun v => [v]) (show (na + nb) % 65536 = na + nb by omega)
                have eP : sPc 4 nb 3 = 3 := show (if (4 : Int) = 7 ∧ nb = 0 then (2 : Int) else 3) = 3 from if_neg (fun h => by omega)
                have eT : sTr 4 nb 3 = 0 := show (if (4 : Int) = 7 ∧ nb = 0 then (3 : Int) else 0) = 0 from if_neg (fun h => by omega)
                have HR2 : Hid (Rd wi q [na + nb]) := by have h_ := HR.out; rw [eS] at h_; exact h_
                have HC2 : Hid (wi.heap[wr.heap.size + 1]? = some (.cells #[.int .i64 3, .slice q 1 c] 27)) := by have h_ := HC.out; rw [eS, eP] at h_; exact h_
                rw [eT]
                obtain ⟨gq, oq, rfl, hq⟩ := HR2.out (by simp)
                have hq0 := hq 0 (by simp)
                rw [Nat.add_zero] at hq0
                have hqv : wi.cell? ⟨gq, oq, none⟩ = some (.int .i64 (na + nb)) := hq0
                have hgq : gq < wi.heap.size := World.block_lt_of_cell? wi ⟨gq, oq, none⟩ hqv
                have kC := row2_cells HC2.out
                have g1 : ¬ gq = wi.heap.size := by omega
                have g2 : ¬ wi.heap.size = gq := by omega
                have g3 : ¬ wr.heap.size + 1 = wi.heap.size := by omega
                have g4 : ¬ wi.heap.size = wr.heap.size + 1 := by omega
                clear hq hq0 eS eP eT HR HC HR2 HC2
                go_wp2_with fail
                go_quiet (fail)
                go_wp2
                go_roundw
                case rel => exact ⟨1, by go_num, by omega, row_on HO.out (below_drewN (al1_b wi _) _), bel_on (Nat.le_refl _) HW.out (below_drewN (al1_b wi _) _)⟩
                case measure => first | (simp [intOf]; done) | (simp [intOf]; omega)
            · by_cases hab : na < nb
              · exfalso; omega
              · skip
                have eS : sSt 4 na nb 3 = [na + nb] := by show (if (4 : Int) = 7 ∧ nb = 0 then [na, nb] else [sV 4 na nb]) = _; rw [if_neg (fun h => by omega)]; exact congrArg (fun v => [v]) (show (na + nb) % 65536 = na + nb by omega)
                have eP : sPc 4 nb 3 = 3 := show (if (4 : Int) = 7 ∧ nb = 0 then (2 : Int) else 3) = 3 from if_neg (fun h => by omega)
                have eT : sTr 4 nb 3 = 0 := show (if (4 : Int) = 7 ∧ nb = 0 then (3 : Int) else 0) = 0 from if_neg (fun h => by omega)
                have HR2 : Hid (Rd wi q [na + nb]) := by have h_ := HR.out; rw [eS] at h_; exact h_
                have HC2 : Hid (wi.heap[wr.heap.size + 1]? = some (.cells #[.int .i64 3, .slice q 1 c] 27)) := by have h_ := HC.out; rw [eS, eP] at h_; exact h_
                rw [eT]
                obtain ⟨gq, oq, rfl, hq⟩ := HR2.out (by simp)
                have hq0 := hq 0 (by simp)
                rw [Nat.add_zero] at hq0
                have hqv : wi.cell? ⟨gq, oq, none⟩ = some (.int .i64 (na + nb)) := hq0
                have hgq : gq < wi.heap.size := World.block_lt_of_cell? wi ⟨gq, oq, none⟩ hqv
                have kC := row2_cells HC2.out
                have g1 : ¬ gq = wi.heap.size := by omega
                have g2 : ¬ wi.heap.size = gq := by omega
                have g3 : ¬ wr.heap.size + 1 = wi.heap.size := by omega
                have g4 : ¬ wi.heap.size = wr.heap.size + 1 := by omega
                clear hq hq0 eS eP eT HR HC HR2 HC2
                go_wp2_with fail
                go_quiet (fail)
                go_wp2
                go_roundw
                case rel => exact ⟨1, by go_num, by omega, row_on HO.out (below_drewN (al1_b wi _) _), bel_on (Nat.le_refl _) HW.out (below_drewN (al1_b wi _) _)⟩
                case measure => first | (simp [intOf]; done) | (simp [intOf]; omega)
          · obtain rfl : k = 1 := by have := HOP.out; omega
            have kO : wi.cell? ⟨w1.heap.size, 1, none⟩ = some (.int .i64 5) := by rw [cell_of_row wi w1.heap.size 1 _ 3 (0, 0) HO.out]; rfl
            by_cases hb1 : 0 < nb
            · by_cases hab : na < nb
              · skip
                obtain ⟨D, hD1⟩ : ∃ D, na.tdiv nb = D := ⟨_, rfl⟩
                have hDr := isW_div (x := nb) (y := na) ⟨by omega, by omega⟩ ⟨by omega, by omega⟩ (by omega)
                rw [hD1] at hDr
                have hD2 : na / nb = D := by rw [← hD1, Int.tdiv_eq_ediv_of_nonneg ha0.1]
                have hz : ¬ nb = 0 := by omega
                have eS : sSt 5 na nb 3 = [Y] := by show (if (5 : Int) = 7 ∧ nb = 0 then [na, nb] else [sV 5 na nb]) = _; rw [if_neg (fun h => by omega)]; exact congrArg (fun v => [v]) (HY.out)
                have eP : sPc 5 nb 3 = 3 := show (if (5 : Int) = 7 ∧ nb = 0 then (2 : Int) else 3) = 3 from if_neg (fun h => by omega)
                have eT : sTr 5 nb 3 = 0 := show (if (5 : Int) = 7 ∧ nb = 0 then (3 : Int) else 0) = 0 from if_neg (fun h => by omega)
                have HR2 : Hid (Rd wi q [Y]) := by have h_ := HR.out; rw [eS] at h_; exact h_
                have HC2 : Hid (wi.heap[wr.heap.size + 1]? = some (.cells #[.int .i64 3, .slice q 1 c] 27)) := by have h_ := HC.out; rw [eS, eP] at h_; exact h_
                rw [eT]
                obtain ⟨gq, oq, rfl, hq⟩ := HR2.out (by simp)
                have hq0 := hq 0 (by simp)
                rw [Nat.add_zero] at hq0
                have hqv : wi.cell? ⟨gq, oq, none⟩ = some (.int .i64 (Y)) := hq0
                have hgq : gq < wi.heap.size := World.block_lt_of_cell? wi ⟨gq, oq, none⟩ hqv
                have kC := row2_cells HC2.out
                have g1 : ¬ gq = wi.heap.size := by omega
                have g2 : ¬ wi.heap.size = gq := by omega
                have g3 : ¬ wr.heap.size + 1 = wi.heap.size := by omega
                have g4 : ¬ wi.heap.size = wr.heap.size + 1 := by omega
                clear hq hq0 eS eP eT HR HC HR2 HC2
                go_wp2_with fail
                go_quiet (fail)
                go_wp2
                go_roundw
                case rel => exact ⟨2, by go_num, by omega, row_on HO.out (below_drewN (al1_b wi _) _), bel_on (Nat.le_refl _) HW.out (below_drewN (al1_b wi _) _)⟩
                case measure => first | (simp [intOf]; done) | (simp [intOf]; omega)
              · skip
                obtain ⟨D, hD1⟩ : ∃ D, na.tdiv nb = D := ⟨_, rfl⟩
                have hDr := isW_div (x := nb) (y := na) ⟨by omega, by omega⟩ ⟨by omega, by omega⟩ (by omega)
                rw [hD1] at hDr
                have hD2 : na / nb = D := by rw [← hD1, Int.tdiv_eq_ediv_of_nonneg ha0.1]
                have hz : ¬ nb = 0 := by omega
                have eS : sSt 5 na nb 3 = [Y] := by show (if (5 : Int) = 7 ∧ nb = 0 then [na, nb] else [sV 5 na nb]) = _; rw [if_neg (fun h => by omega)]; exact congrArg (fun v => [v]) (HY.out)
                have eP : sPc 5 nb 3 = 3 := show (if (5 : Int) = 7 ∧ nb = 0 then (2 : Int) else 3) = 3 from if_neg (fun h => by omega)
                have eT : sTr 5 nb 3 = 0 := show (if (5 : Int) = 7 ∧ nb = 0 then (3 : Int) else 0) = 0 from if_neg (fun h => by omega)
                have HR2 : Hid (Rd wi q [Y]) := by have h_ := HR.out; rw [eS] at h_; exact h_
                have HC2 : Hid (wi.heap[wr.heap.size + 1]? = some (.cells #[.int .i64 3, .slice q 1 c] 27)) := by have h_ := HC.out; rw [eS, eP] at h_; exact h_
                rw [eT]
                obtain ⟨gq, oq, rfl, hq⟩ := HR2.out (by simp)
                have hq0 := hq 0 (by simp)
                rw [Nat.add_zero] at hq0
                have hqv : wi.cell? ⟨gq, oq, none⟩ = some (.int .i64 (Y)) := hq0
                have hgq : gq < wi.heap.size := World.block_lt_of_cell? wi ⟨gq, oq, none⟩ hqv
                have kC := row2_cells HC2.out
                have g1 : ¬ gq = wi.heap.size := by omega
                have g2 : ¬ wi.heap.size = gq := by omega
                have g3 : ¬ wr.heap.size + 1 = wi.heap.size := by omega
                have g4 : ¬ wi.heap.size = wr.heap.size + 1 := by omega
                clear hq hq0 eS eP eT HR HC HR2 HC2
                go_wp2_with fail
                go_quiet (fail)
                go_wp2
                go_roundw
                case rel => exact ⟨2, by go_num, by omega, row_on HO.out (below_drewN (al1_b wi _) _), bel_on (Nat.le_refl _) HW.out (below_drewN (al1_b wi _) _)⟩
                case measure => first | (simp [intOf]; done) | (simp [intOf]; omega)
            · by_cases hab : na < nb
              · exfalso; omega
              · skip
                have eS : sSt 5 na nb 3 = [Y] := by show (if (5 : Int) = 7 ∧ nb = 0 then [na, nb] else [sV 5 na nb]) = _; rw [if_neg (fun h => by omega)]; exact congrArg (fun v => [v]) (HY.out)
                have eP : sPc 5 nb 3 = 3 := show (if (5 : Int) = 7 ∧ nb = 0 then (2 : Int) else 3) = 3 from if_neg (fun h => by omega)
                have eT : sTr 5 nb 3 = 0 := show (if (5 : Int) = 7 ∧ nb = 0 then (3 : Int) else 0) = 0 from if_neg (fun h => by omega)
                have HR2 : Hid (Rd wi q [Y]) := by have h_ := HR.out; rw [eS] at h_; exact h_
                have HC2 : Hid (wi.heap[wr.heap.size + 1]? = some (.cells #[.int .i64 3, .slice q 1 c] 27)) := by have h_ := HC.out; rw [eS, eP] at h_; exact h_
                rw [eT]
                obtain ⟨gq, oq, rfl, hq⟩ := HR2.out (by simp)
                have hq0 := hq 0 (by simp)
                rw [Nat.add_zero] at hq0
                have hqv : wi.cell? ⟨gq, oq, none⟩ = some (.int .i64 (Y)) := hq0
                have hgq : gq < wi.heap.size := World.block_lt_of_cell? wi ⟨gq, oq, none⟩ hqv
                have kC := row2_cells HC2.out
                have g1 : ¬ gq = wi.heap.size := by omega
                have g2 : ¬ wi.heap.size = gq := by omega
                have g3 : ¬ wr.heap.size + 1 = wi.heap.size := by omega
                have g4 : ¬ wi.heap.size = wr.heap.size + 1 := by omega
                clear hq hq0 eS eP eT HR HC HR2 HC2
                go_wp2_with fail
                go_quiet (fail)
                go_wp2
                go_roundw
                case rel => exact ⟨2, by go_num, by omega, row_on HO.out (below_drewN (al1_b wi _) _), bel_on (Nat.le_refl _) HW.out (below_drewN (al1_b wi _) _)⟩
                case measure => first | (simp [intOf]; done) | (simp [intOf]; omega)
          · obtain rfl : k = 2 := by have := HOP.out; omega
            have kO : wi.cell? ⟨w1.heap.size, 2, none⟩ = some (.int .i64 6) := by rw [cell_of_row wi w1.heap.size 2 _ 3 (0, 0) HO.out]; rfl
            by_cases hb1 : 0 < nb
            · by_cases hab : na < nb
              · skip
                obtain ⟨D, hD1⟩ : ∃ D, na.tdiv nb = D := ⟨_, rfl⟩
                have hDr := isW_div (x := nb) (y := na) ⟨by omega, by omega⟩ ⟨by omega, by omega⟩ (by omega)
                rw [hD1] at hDr
                have hD2 : na / nb = D := by rw [← hD1, Int.tdiv_eq_ediv_of_nonneg ha0.1]
                have hz : ¬ nb = 0 := by omega
                have eS : sSt 6 na nb 3 = [M] := by show (if (6 : Int) = 7 ∧ nb = 0 then [na, nb] else [sV 6 na nb]) = _; rw [if_neg (fun h => by omega)]; exact congrArg (fun v => [v]) (show (na * nb) % 65536 = M by rw [hM0]; exact hX1)
                have eP : sPc 6 nb 3 = 3 := show (if (6 : Int) = 7 ∧ nb = 0 then (2 : Int) else 3) = 3 from if_neg (fun h => by omega)
                have eT : sTr 6 nb 3 = 0 := show (if (6 : Int) = 7 ∧ nb = 0 then (3 : Int) else 0) = 0 from if_neg (fun h => by omega)
                have HR2 : Hid (Rd wi q [M]) := by have h_ := HR.out; rw [eS] at h_; exact h_
                have HC2 : Hid (wi.heap[wr.heap.size + 1]? = some (.cells #[.int .i64 3, .slice q 1 c] 27)) := by have h_ := HC.out; rw [eS, eP] at h_; exact h_
                rw [eT]
                obtain ⟨gq, oq, rfl, hq⟩ := HR2.out (by simp)
                have hq0 := hq 0 (by simp)
                rw [Nat.add_zero] at hq0
                have hqv : wi.cell? ⟨gq, oq, none⟩ = some (.int .i64 (M)) := hq0
                have hgq : gq < wi.heap.size := World.block_lt_of_cell? wi ⟨gq, oq, none⟩ hqv
                have kC := row2_cells HC2.out
                have g1 : ¬ gq = wi.heap.size := by omega
                have g2 : ¬ wi.heap.size = gq := by omega
                have g3 : ¬ wr.heap.size + 1 = wi.heap.size := by omega
                have g4 : ¬ wi.heap.size = wr.heap.size + 1 := by omega
                clear hq hq0 eS eP eT HR HC HR2 HC2
                go_wp2_with fail
                go_quiet (fail)
                go_wp2
                go_roundw
                case rel => exact ⟨3, by go_num, by omega, row_on HO.out (below_drewN (al1_b wi _) _), bel_on (Nat.le_refl _) HW.out (below_drewN (al1_b wi _) _)⟩
                case measure => first | (simp [intOf]; done) | (simp [intOf]; omega)
              · skip
                obtain ⟨D, hD1⟩ : ∃ D, na.tdiv nb = D := ⟨_, rfl⟩
                have hDr := isW_div (x := nb) (y := na) ⟨by omega, by omega⟩ ⟨by omega, by omega⟩ (by omega)
                rw [hD1] at hDr
                have hD2 : na / nb = D := by rw [← hD1, Int.tdiv_eq_ediv_of_nonneg ha0.1]
                have hz : ¬ nb = 0 := by omega
                have eS : sSt 6 na nb 3 = [M] := by show (if (6 : Int) = 7 ∧ nb = 0 then [na, nb] else [sV 6 na nb]) = _; rw [if_neg (fun h => by omega)]; exact congrArg (fun v => [v]) (show (na * nb) % 65536 = M by rw [hM0]; exact hX1)
                have eP : sPc 6 nb 3 = 3 := show (if (6 : Int) = 7 ∧ nb = 0 then (2 : Int) else 3) = 3 from if_neg (fun h => by omega)
                have eT : sTr 6 nb 3 = 0 := show (if (6 : Int) = 7 ∧ nb = 0 then (3 : Int) else 0) = 0 from if_neg (fun h => by omega)
                have HR2 : Hid (Rd wi q [M]) := by have h_ := HR.out; rw [eS] at h_; exact h_
                have HC2 : Hid (wi.heap[wr.heap.size + 1]? = some (.cells #[.int .i64 3, .slice q 1 c] 27)) := by have h_ := HC.out; rw [eS, eP] at h_; exact h_
                rw [eT]
                obtain ⟨gq, oq, rfl, hq⟩ := HR2.out (by simp)
                have hq0 := hq 0 (by simp)
                rw [Nat.add_zero] at hq0
                have hqv : wi.cell? ⟨gq, oq, none⟩ = some (.int .i64 (M)) := hq0
                have hgq : gq < wi.heap.size := World.block_lt_of_cell? wi ⟨gq, oq, none⟩ hqv
                have kC := row2_cells HC2.out
                have g1 : ¬ gq = wi.heap.size := by omega
                have g2 : ¬ wi.heap.size = gq := by omega
                have g3 : ¬ wr.heap.size + 1 = wi.heap.size := by omega
                have g4 : ¬ wi.heap.size = wr.heap.size + 1 := by omega
                clear hq hq0 eS eP eT HR HC HR2 HC2
                go_wp2_with fail
                go_quiet (fail)
                go_wp2
                go_roundw
                case rel => exact ⟨3, by go_num, by omega, row_on HO.out (below_drewN (al1_b wi _) _), bel_on (Nat.le_refl _) HW.out (below_drewN (al1_b wi _) _)⟩
                case measure => first | (simp [intOf]; done) | (simp [intOf]; omega)
            · by_cases hab : na < nb
              · exfalso; omega
              · skip
                have eS : sSt 6 na nb 3 = [M] := by show (if (6 : Int) = 7 ∧ nb = 0 then [na, nb] else [sV 6 na nb]) = _; rw [if_neg (fun h => by omega)]; exact congrArg (fun v => [v]) (show (na * nb) % 65536 = M by rw [hM0]; exact hX1)
                have eP : sPc 6 nb 3 = 3 := show (if (6 : Int) = 7 ∧ nb = 0 then (2 : Int) else 3) = 3 from if_neg (fun h => by omega)
                have eT : sTr 6 nb 3 = 0 := show (if (6 : Int) = 7 ∧ nb = 0 then (3 : Int) else 0) = 0 from if_neg (fun h => by omega)
                have HR2 : Hid (Rd wi q [M]) := by have h_ := HR.out; rw [eS] at h_; exact h_
                have HC2 : Hid (wi.heap[wr.heap.size + 1]? = some (.cells #[.int .i64 3, .slice q 1 c] 27)) := by have h_ := HC.out; rw [eS, eP] at h_; exact h_
                rw [eT]
                obtain ⟨gq, oq, rfl, hq⟩ := HR2.out (by simp)
                have hq0 := hq 0 (by simp)
                rw [Nat.add_zero] at hq0
                have hqv : wi.cell? ⟨gq, oq, none⟩ = some (.int .i64 (M)) := hq0
                have hgq : gq < wi.heap.size := World.block_lt_of_cell? wi ⟨gq, oq, none⟩ hqv
                have kC := row2_cells HC2.out
                have g1 : ¬ gq = wi.heap.size := by omega
                have g2 : ¬ wi.heap.size = gq := by omega
                have g3 : ¬ wr.heap.size + 1 = wi.heap.size := by omega
                have g4 : ¬ wi.heap.size = wr.heap.size + 1 := by omega
                clear hq hq0 eS eP eT HR HC HR2 HC2
                go_wp2_with fail
                go_quiet (fail)
                go_wp2
                go_roundw
                case rel => exact ⟨3, by go_num, by omega, row_on HO.out (below_drewN (al1_b wi _) _), bel_on (Nat.le_refl _) HW.out (below_drewN (al1_b wi _) _)⟩
                case measure => first | (simp [intOf]; done) | (simp [intOf]; omega)
          · obtain rfl : k = 3 := by have := HOP.out; omega
            have kO : wi.cell? ⟨w1.heap.size, 3, none⟩ = some (.int .i64 7) := by rw [cell_of_row wi w1.heap.size 3 _ 3 (0, 0) HO.out]; rfl
            by_cases hz : nb = 0
            · subst hz
              have eT : sTr 7 0 3 = 3 := rfl
              rw [eT]
              go_wp2
              go_roundw
              case rel => exact ⟨4, by go_num, by omega, HO, HW⟩
              case measure => first | (simp [intOf]; done) | (simp [intOf]; omega)
            · have hb1 : 0 < nb := by omega
              by_cases hab : na < nb
              · skip
                obtain ⟨D, hD1⟩ : ∃ D, na.tdiv nb = D := ⟨_, rfl⟩
                have hDr := isW_div (x := nb) (y := na) ⟨by omega, by omega⟩ ⟨by omega, by omega⟩ hz
                rw [hD1] at hDr
                have hD2 : na / nb = D := by rw [← hD1, Int.tdiv_eq_ediv_of_nonneg ha0.1]
                have eS : sSt 7 na nb 3 = [D] := by show (if (7 : Int) = 7 ∧ nb = 0 then [na, nb] else [sV 7 na nb]) = _; rw [if_neg (fun h => by omega)]; exact congrArg (fun v => [v]) (show (na.tdiv nb) % 65536 = D by rw [hD1]; omega)
                have eP : sPc 7 nb 3 = 3 := show (if (7 : Int) = 7 ∧ nb = 0 then (2 : Int) else 3) = 3 from if_neg (fun h => by omega)
                have eT : sTr 7 nb 3 = 0 := show (if (7 : Int) = 7 ∧ nb = 0 then (3 : Int) else 0) = 0 from if_neg (fun h => by omega)
                have HR2 : Hid (Rd wi q [D]) := by have h_ := HR.out; rw [eS] at h_; exact h_
                have HC2 : Hid (wi.heap[wr.heap.size + 1]? = some (.cells #[.int .i64 3, .slice q 1 c] 27)) := by have h_ := HC.out; rw [eS, eP] at h_; exact h_
                rw [eT]
                obtain ⟨gq, oq, rfl, hq⟩ := HR2.out (by simp)
                have hq0 := hq 0 (by simp)
                rw [Nat.add_zero] at hq0
                have hqv : wi.cell? ⟨gq, oq, none⟩ = some (.int .i64 (D)) := hq0
                have hgq : gq < wi.heap.size := World.block_lt_of_cell? wi ⟨gq, oq, none⟩ hqv
                have kC := row2_cells HC2.out
                have g1 : ¬ gq = wi.heap.size := by omega
                have g2 : ¬ wi.heap.size = gq := by omega
                have g3 : ¬ wr.heap.size + 1 = wi.heap.size := by omega
                have g4 : ¬ wi.heap.size = wr.heap.size + 1 := by omega
                clear hq hq0 eS eP eT HR HC HR2 HC2
                go_wp2_with fail
                go_quiet (fail)
                go_wp2
                go_roundw
                case rel => exact ⟨4, by go_num, by omega, row_on HO.out (below_drewN (al1_b wi _) _), bel_on (Nat.le_refl _) HW.out (below_drewN (al1_b wi _) _)⟩
                case measure => first | (simp [intOf]; done) | (simp [intOf]; omega)
              · skip
                obtain ⟨D, hD1⟩ : ∃ D, na.tdiv nb = D := ⟨_, rfl⟩
                have hDr := isW_div (x := nb) (y := na) ⟨by omega, by omega⟩ ⟨by omega, by omega⟩ hz
                rw [hD1] at hDr
                have hD2 : na / nb = D := by rw [← hD1, Int.tdiv_eq_ediv_of_nonneg ha0.1]
                have eS : sSt 7 na nb 3 = [D] := by show (if (7 : Int) = 7 ∧ nb = 0 then [na, nb] else [sV 7 na nb]) = _; rw [if_neg (fun h => by omega)]; exact congrArg (fun v => [v]) (show (na.tdiv nb) % 65536 = D by rw [hD1]; omega)
                have eP : sPc 7 nb 3 = 3 := show (if (7 : Int) = 7 ∧ nb = 0 then (2 : Int) else 3) = 3 from if_neg (fun h => by omega)
                have eT : sTr 7 nb 3 = 0 := show (if (7 : Int) = 7 ∧ nb = 0 then (3 : Int) else 0) = 0 from if_neg (fun h => by omega)
                have HR2 : Hid (Rd wi q [D]) := by have h_ := HR.out; rw [eS] at h_; exact h_
                have HC2 : Hid (wi.heap[wr.heap.size + 1]? = some (.cells #[.int .i64 3, .slice q 1 c] 27)) := by have h_ := HC.out; rw [eS, eP] at h_; exact h_
                rw [eT]
                obtain ⟨gq, oq, rfl, hq⟩ := HR2.out (by simp)
                have hq0 := hq 0 (by simp)
                rw [Nat.add_zero] at hq0
                have hqv : wi.cell? ⟨gq, oq, none⟩ = some (.int .i64 (D)) := hq0
                have hgq : gq < wi.heap.size := World.block_lt_of_cell? wi ⟨gq, oq, none⟩ hqv
                have kC := row2_cells HC2.out
                have g1 : ¬ gq = wi.heap.size := by omega
                have g2 : ¬ wi.heap.size = gq := by omega
                have g3 : ¬ wr.heap.size + 1 = wi.heap.size := by omega
                have g4 : ¬ wi.heap.size = wr.heap.size + 1 := by omega
                clear hq hq0 eS eP eT HR HC HR2 HC2
                go_wp2_with fail
                go_quiet (fail)
                go_wp2
                go_roundw
                case rel => exact ⟨4, by go_num, by omega, row_on HO.out (below_drewN (al1_b wi _) _), bel_on (Nat.le_refl _) HW.out (below_drewN (al1_b wi _) _)⟩
                case measure => first | (simp [intOf]; done) | (simp [intOf]; omega)
          · obtain rfl : k = 4 := by have := HOP.out; omega
            have kO : wi.cell? ⟨w1.heap.size, 4, none⟩ = some (.int .i64 8) := by rw [cell_of_row wi w1.heap.size 4 _ 3 (0, 0) HO.out]; rfl
            by_cases hb1 : 0 < nb
            · by_cases hab : na < nb
              · skip
                obtain ⟨D, hD1⟩ : ∃ D, na.tdiv nb = D := ⟨_, rfl⟩
                have hDr := isW_div (x := nb) (y := na) ⟨by omega, by omega⟩ ⟨by omega, by omega⟩ (by omega)
                rw [hD1] at hDr
                have hD2 : na / nb = D := by rw [← hD1, Int.tdiv_eq_ediv_of_nonneg ha0.1]
                have hz : ¬ nb = 0 := by omega
                have eS : sSt 8 na nb 3 = [1] := by show (if (8 : Int) = 7 ∧ nb = 0 then [na, nb] else [sV 8 na nb]) = _; rw [if_neg (fun h => by omega)]; exact congrArg (fun v => [v]) (show (if na < nb then (1 : Int) else 0) % 65536 = 1 by rw [if_pos hab]; rfl)
                have eP : sPc 8 nb 3 = 3 := show (if (8 : Int) = 7 ∧ nb = 0 then (2 : Int) else 3) = 3 from if_neg (fun h => by omega)
                have eT : sTr 8 nb 3 = 0 := show (if (8 : Int) = 7 ∧ nb = 0 then (3 : Int) else 0) = 0 from if_neg (fun h => by omega)
                have HR2 : Hid (Rd wi q [1]) := by have h_ := HR.out; rw [eS] at h_; exact h_
                have HC2 : Hid (wi.heap[wr.heap.size + 1]? = some (.cells #[.int .i64 3, .slice q 1 c] 27)) := by have h_ := HC.out; rw [eS, eP] at h_; exact h_
                rw [eT]
                obtain ⟨gq, oq, rfl, hq⟩ := HR2.out (by simp)
                have hq0 := hq 0 (by simp)
                rw [Nat.add_zero] at hq0
                have hqv : wi.cell? ⟨gq, oq, none⟩ = some (.int .i64 (1)) := hq0
                have hgq : gq < wi.heap.size := World.block_lt_of_cell? wi ⟨gq, oq, none⟩ hqv
                have kC := row2_cells HC2.out
                have g1 : ¬ gq = wi.heap.size := by omega
                have g2 : ¬ wi.heap.size = gq := by omega
                have g3 : ¬ wr.heap.size + 1 = wi.heap.size := by omega
                have g4 : ¬ wi.heap.size = wr.heap.size + 1 := by omega
                clear hq hq0 eS eP eT HR HC HR2 HC2
                go_wp2_with fail
                go_quiet (fail)
                go_wp2
                go_roundw
                case rel => exact ⟨5, by go_num, by omega, row_on HO.out (below_drewN (al1_b wi _) _), bel_on (Nat.le_refl _) HW.out (below_drewN (al1_b wi _) _)⟩
                case measure => first | (simp [intOf]; done) | (simp [intOf]; omega)
              · skip
                obtain ⟨D, hD1⟩ : ∃ D, na.tdiv nb = D := ⟨_, rfl⟩
                have hDr := isW_div (x := nb) (y := na) ⟨by omega, by omega⟩ ⟨by omega, by omega⟩ (by omega)
                rw [hD1] at hDr
                have hD2 : na / nb = D := by rw [← hD1, Int.tdiv_eq_ediv_of_nonneg ha0.1]
                have hz : ¬ nb = 0 := by omega
                have eS : sSt 8 na nb 3 = [0] := by show (if (8 : Int) = 7 ∧ nb = 0 then [na, nb] else [sV 8 na nb]) = _; rw [if_neg (fun h => by omega)]; exact congrArg (fun v => [v]) (show (if na < nb then (1 : Int) else 0) % 65536 = 0 by rw [if_neg hab]; rfl)
                have eP : sPc 8 nb 3 = 3 := show (if (8 : Int) = 7 ∧ nb = 0 then (2 : Int) else 3) = 3 from if_neg (fun h => by omega)
                have eT : sTr 8 nb 3 = 0 := show (if (8 : Int) = 7 ∧ nb = 0 then (3 : Int) else 0) = 0 from if_neg (fun h => by omega)
                have HR2 : Hid (Rd wi q [0]) := by have h_ := HR.out; rw [eS] at h_; exact h_
                have HC2 : Hid (wi.heap[wr.heap.size + 1]? = some (.cells #[.int .i64 3, .slice q 1 c] 27)) := by have h_ := HC.out; rw [eS, eP] at h_; exact h_
                rw [eT]
                obtain ⟨gq, oq, rfl, hq⟩ := HR2.out (by simp)
                have hq0 := hq 0 (by simp)
                rw [Nat.add_zero] at hq0
                have hqv : wi.cell? ⟨gq, oq, none⟩ = some (.int .i64 (0)) := hq0
                have hgq : gq < wi.heap.size := World.block_lt_of_cell? wi ⟨gq, oq, none⟩ hqv
                have kC := row2_cells HC2.out
                have g1 : ¬ gq = wi.heap.size := by omega
                have g2 : ¬ wi.heap.size = gq := by omega
                have g3 : ¬ wr.heap.size + 1 = wi.heap.size := by omega
                have g4 : ¬ wi.heap.size = wr.heap.size + 1 := by omega
                clear hq hq0 eS eP eT HR HC HR2 HC2
                go_wp2_with fail
                go_quiet (fail)
                go_wp2
                go_roundw
                case rel => exact ⟨5, by go_num, by omega, row_on HO.out (below_drewN (al1_b wi _) _), bel_on (Nat.le_refl _) HW.out (below_drewN (al1_b wi _) _)⟩
                case measure => first | (simp [intOf]; done) | (simp [intOf]; omega)
            · by_cases hab : na < nb
              · exfalso; omega
              · skip
                have eS : sSt 8 na nb 3 = [0] := by show (if (8 : Int) = 7 ∧ nb = 0 then [na, nb] else [sV 8 na nb]) = _; rw [if_neg (fun h => by omega)]; exact congrArg (fun v => [v]) (show (if na < nb then (1 : Int) else 0) % 65536 = 0 by rw [if_neg hab]; rfl)
                have eP : sPc 8 nb 3 = 3 := show (if (8 : Int) = 7 ∧ nb = 0 then (2 : Int) else 3) = 3 from if_neg (fun h => by omega)
                have eT : sTr 8 nb 3 = 0 := show (if (8 : Int) = 7 ∧ nb = 0 then (3 : Int) else 0) = 0 from if_neg (fun h => by omega)
                have HR2 : Hid (Rd wi q [0]) := by have h_ := HR.out; rw [eS] at h_; exact h_
                have HC2 : Hid (wi.heap[wr.heap.size + 1]? = some (.cells #[.int .i64 3, .slice q 1 c] 27)) := by have h_ := HC.out; rw [eS, eP] at h_; exact h_
                rw [eT]
                obtain ⟨gq, oq, rfl, hq⟩ := HR2.out (by simp)
                have hq0 := hq 0 (by simp)
                rw [Nat.add_zero] at hq0
                have hqv : wi.cell? ⟨gq, oq, none⟩ = some (.int .i64 (0)) := hq0
                have hgq : gq < wi.heap.size := World.block_lt_of_cell? wi ⟨gq, oq, none⟩ hqv
                have kC := row2_cells HC2.out
                have g1 : ¬ gq = wi.heap.size := by omega
                have g2 : ¬ wi.heap.size = gq := by omega
                have g3 : ¬ wr.heap.size + 1 = wi.heap.size := by omega
                have g4 : ¬ wi.heap.size = wr.heap.size + 1 := by omega
                clear hq hq0 eS eP eT HR HC HR2 HC2
                go_wp2_with fail
                go_quiet (fail)
                go_wp2
                go_roundw
                case rel => exact ⟨5, by go_num, by omega, row_on HO.out (below_drewN (al1_b wi _) _), bel_on (Nat.le_refl _) HW.out (below_drewN (al1_b wi _) _)⟩
                case measure => first | (simp [intOf]; done) | (simp [intOf]; omega)
    · obtain rfl : k = 5 := by omega
      go_wp2
      go_ret
      exact ⟨rfl, HW.out⟩

theorem walk (a0 : Option Addr) (len0 cap0 : Nat) (z0 : List Int) (w : World) (w0 : D.IsRow .u8 w a0 len0 cap0 z0) :
    Calls Try.prog 7 #[.slice a0 len0 cap0] w fun e w' => e = .returned (.bool true) ∧ Below w.heap.size w w' := by
  have hlen : len0 ≤ 9223372036854775807 := by
    rcases w0 with ⟨_, h, _⟩ | ⟨x, _, h1, h2, _⟩
    · omega
    · unfold maxLen at h2; omega
  by_cases hb : len0 ≤ 1048576
  · exact sums_in a0 len0 cap0 hb w (D.code_of_row w0 hb)
  · have hb' : 1048576 < len0 := by omega
    go_enter Try.func7, Try.ntmps7
    go_wp2_with fail
    refine (D.big5 a0 len0 cap0 hlen _).mono ?_
    rintro e w1 ⟨rfl, rfl⟩
    rw [decide_eq_true (by omega)]
    go_wp2
    go_ret
    exact ⟨rfl, Below.refl _ _⟩

set_option maxRecDepth 100000 in
theorem lifted (os : Os) (started : os.Started) (H : Type) (enc : TypeId × Value → H) :
    ReturnsInHanded {} Try.checked os 7 .any (Rows.fnSumsOfSpec.pre6 enc Try.prog Try.f7 Rows.fnSumsOfRow.domain false) (Rows.fnSumsOfSpec.post enc Try.prog Try.f7 false true false false) := by
  refine returnsInHanded_of_change (C := Try.checked) own started (by kernel_rfl) Try.func7
    (ChangeSpec.witness6 (enc := enc) (C := Try.checked) false ⟨#[], #[.slice none 0 0], []⟩ 8 (by kernel_rfl) (by kernel_rfl) (by kernel_rfl) (by kernel_rfl)) ?_
  intro W base args ds gs before hval0 hW hcnd _
  have hval : ∀ (j : Nat) t v, Try.f7.params[j]? = some t → args[j]? = some v → Value.okWide Try.prog W .any base t v := hval0
  have hW' := hW
  obtain ⟨p, q, hA0, hV, rfl, hfz, hnd⟩ := hW
  have hA : DataW.TrodAll enc Try.prog W 0 (fun _ => true) true Try.f7.params.toList args.toList ds p := hA0
  rw [Try.params7] at hA hval
  obtain ⟨v0, vs0, d0, ds0, p0, q0, hargs, rfl, rfl, h0, r0⟩ := trodAll_cons hA
  obtain ⟨rfl, rfl, rfl⟩ := trodAll_nil r0
  obtain rfl : args = #[v0] := by cases args; simp_all
  obtain ⟨rfl, rfl⟩ := trodVars_none hV
  have k0 := h0
  have lt0 : ∀ x ∈ p0, x.block < W.heap.size := by obtain ⟨m, hm⟩ := k0; exact DataW.trod_lt m _ _ _ hm
  obtain ⟨a0, len0, cap0, z0, rfl, w0⟩ := D.open_code (hval 0 58 v0 rfl rfl) h0
  clear hA0 hval0
  refine (walk a0 len0 cap0 z0 W w0).mono fun e W' ⟨he, bel⟩ => ?_
  subst he
  exact ⟨_, rfl, _, _, _, [], _, [], hW', trodAll_mk1 (shut_bool Try.underlying4 _), (trodAll_cons_mk (Below.trod laidOut (by kernel_rfl) (of_decide_eq_true (by kernel_rfl)) k0 bel lt0) trodAll_mk0), rfl, bel.frame _, fun h => by cases h⟩

theorem over : Rows.fnSumsOfRow.holds Try.pinned (OpenSpec.ofChange Rows.fnSumsOfSpec) :=
  OpenClaim.holds_of_wide 7 Try.f7 rfl rfl rfl rfl rfl rfl rfl ⟨rfl, rfl, rfl, rfl, rfl⟩ rfl rfl rfl rfl rfl (by kernel_rfl) Try.func7 (by kernel_rfl)
    (of_decide_eq_true (by kernel_rfl)) (by unfold Func.isWrapper; first | (rw [if_pos (by decide +kernel)]; kernel_rfl) | (rw [if_neg (by decide +kernel)]; exact ⟨rfl, rfl⟩))
    (fun os started H enc _ => lifted os started H enc)

end Go.Proofs.Ytbacmkibilhkgaa.fnSumsOf
namespace Go.Proofs.Ytbacmkibilhkgaa
theorem fnSumsOf_holds : Rows.FnSumsOfSaid :=
  fnSumsOf.over
#print axioms fnSumsOf_holds
end Go.Proofs.Ytbacmkibilhkgaa
