/-
  RunCost of the program.
-/
import Derived.Test.YthnocibkgpofnaaAlone
namespace Go.Proofs.Ythnocibkgpofnaa
open Go.RowKit Go.PlainAid
set_option linter.unusedVariables false

theorem costI' (op c : Int) (hc : costN op = c) (w : World) : Calls Try.prog 33 #[.int .i64 op] w fun e w' => e = .returned (.int .i64 c) ∧ w' = w := by
  subst hc; exact costI op w
/-- the boxes of a run -/
def R3 (w W : World) (av : Value) (f s pc : Int) (sv : Value) : Prop :=
  W.heap[w.heap.size]? = some (.cells #[av] 34) ∧ W.heap[w.heap.size + 1]? = some (.cells #[.int .i64 f, .int .i64 s] 36) ∧ W.heap[w.heap.size + 1 + 1]? = some (.cells #[.int .i64 pc, sv] 55) ∧ Below w.heap.size w W
theorem r3_start (w : World) (av : Value) (f s pc : Int) (sv : Value) : R3 w (((w.alloc (.cells #[av] 34)).alloc (.cells #[.int .i64 f, .int .i64 s] 36)).alloc (.cells #[.int .i64 pc, sv] 55)) av f s pc sv :=
  ⟨al3_1 w _ _ _, al3_2 w _ _ _, al3_3 w _ _ _, al3_b w _ _ _⟩
section
variable {w W W' : World} {pc f s : Int} {sv av : Value}
theorem R3.on (h : R3 w W av f s pc sv) (hb : Below W.heap.size W W') : R3 w W' av f s pc sv :=
  ⟨row_on h.1 hb, row_on h.2.1 hb, row_on h.2.2.1 hb, bel_on (Nat.le_refl _) h.2.2.2 hb⟩
theorem R3.lt (h : R3 w W av f s pc sv) : w.heap.size + 3 ≤ W.heap.size := row_lt h.2.2.1
theorem R3.bel (h : R3 w W av f s pc sv) : Below w.heap.size w W := h.2.2.2
theorem R3.toC (h : R3 w W av f s pc sv) (p : Int) (v : Value) : R3 w ((W.setCell ⟨w.heap.size + 1 + 1, 0, none⟩ (.int .i64 p)).setCell ⟨w.heap.size + 1 + 1, 1, none⟩ v) av f s p v :=
  ⟨set_other (set_other h.1 (by omega)) (by omega), set_other (set_other h.2.1 (by omega)) (by omega), two_sets h.2.2.1, (h.bel.setCell (p := ⟨w.heap.size + 1 + 1, 0, none⟩) (by show w.heap.size ≤ w.heap.size + 1 + 1; omega) _).setCell (p := ⟨w.heap.size + 1 + 1, 1, none⟩) (by show w.heap.size ≤ w.heap.size + 1 + 1; omega) _⟩
theorem R3.toA (h : R3 w W av f s pc sv) (v : Value) : R3 w (W.setCell ⟨w.heap.size, 0, none⟩ v) v f s pc sv :=
  ⟨set1_row (i := 0) h.1, set_other h.2.1 (by omega), set_other h.2.2.1 (by omega), h.bel.setCell (p := ⟨w.heap.size, 0, none⟩) (Nat.le_refl _) _⟩
end
theorem opAt_in {rl : List (Int × Int)} {p : Nat} (h : p < rl.length) : opAt' rl (p : Int) = rl[p] := by
  unfold opAt'
  rw [Int.toNat_natCast, List.getD_eq_getElem?_getD, List.getElem?_eq_getElem h]
  rfl
theorem op_zero (op : Int) : op = 0 ∨ ((op == 0) = false ∧ op ≠ 0) := by
  by_cases h : op = 0
  · exact .inl h
  · exact .inr ⟨by simpa using h, h⟩
theorem alo_zero {R : Res} (h : aloTr R = 0) : R.tr = 0 := by
  unfold aloTr at h
  by_cases hk : (putA (ansN R.k) R.st).2 = true
  · rw [if_pos hk] at h; exact h
  · rw [if_neg hk] at h; exact absurd h (by decide)

set_option maxRecDepth 100000 in
set_option maxHeartbeats 2000000 in
theorem costRunI (qc : Option Addr) (rl : List (Int × Int)) (nc cc : Nat) (qa : Option Addr) (ce0 : List Int) (m ca : Nat) (f s most M : Int) (Mn : Nat) (c : Bool) (X T : Int) (hlc : rl.length = nc) (hnc : nc ≤ 1048576) (hla : ce0.length = m) (hm : m ≤ 1048576) (hc : c = true ↔ I.CodeR rl) (hM : min most 5000 = M) (hMn : M.toNat = Mn) (hX : runR c rl f s M Mn 0 [] ce0 0 = (X, T)) (w : World) (hrc : I.RdR w qc rl) (hra : Rd w qa ce0) :
    Calls Try.prog 13 #[.slice qc nc cc, .agg #[.slice qa m ca], .agg #[.int .i64 f, .int .i64 s], .int .i64 most] w fun e w' => e = .returned (.tuple #[.int .i64 X, .int .i64 T]) ∧ Below w.heap.size w w' := by
  have HRC : Hid (I.RdR w qc rl) := hrc
  have HLC : Hid (rl.length = nc) := hlc
  have HC : Hid (c = true ↔ I.CodeR rl) := hc
  have HX : Hid (runR c rl f s M Mn 0 [] ce0 0 = (X, T)) := hX
  have HR0 : Hid (R3 w _ (.slice qa m ca) f s 0 (.slice none 0 0)) := r3_start w (.slice qa m ca) f s 0 (.slice none 0 0)
  have HRA0 : Hid (Rd _ qa ce0) := hra.keep HR0.out.bel (Nat.le_refl _)
  have HLA0 : Hid (ce0.length = m) := hla
  have hM5 : M ≤ 5000 := by omega
  have hMM : M ≤ (Mn : Int) := by omega
  have hMp : 0 < Mn → M = (Mn : Int) := by omega
  have HMp : Hid (0 < Mn → M = (Mn : Int)) := hMp
  have hw : (most ≤ 5000 ∧ M = most) ∨ (5000 < most ∧ M = 5000) := by omega
  have hnil : Hid (CpuR 0 []) := ⟨by simp, ⟨by decide, by decide⟩, fun i h => absurd h (Nat.not_lt_zero _)⟩
  have HRn : Hid (∀ W, Rd W none []) := fun W h => absurd h (Nat.lt_irrefl _)
  clear hrc hlc hc hX hra hla hM hMn hMp
  go_enter Try.func13, Try.ntmps13
  rcases hw with ⟨hmo, hmm⟩ | ⟨hmo, hmm⟩
  · subst hmm
    go_wp2
    go_loopg [11, 17] Mn (fun gk cv iv wr => ∃ (j : Nat) (cost pc : Int) (st : List Int) (qs : Option Addr) (n cp : Nat) (ce : List Int) (qa' : Option Addr) (ca' : Nat), j + gk = Mn ∧ iv = .int .i64 j ∧ cv = .int .i64 cost ∧ (0 ≤ cost ∧ cost ≤ 5000) ∧ Hid (runR c rl f s M gk pc st ce cost = (X, T)) ∧ Hid (R3 w wr (.slice qa' m ca') f s pc (.slice qs n cp)) ∧ Hid (Rd wr qs st) ∧ Hid (st.length = n) ∧ Hid (Rd wr qa' ce) ∧ Hid (ce.length = m) ∧ Hid (CpuR pc st))
    case atStart => exact ⟨0, 0, 0, [], none, 0, 0, ce0, qa, ca, by omega, rfl, rfl, ⟨by decide, by decide⟩, HX, HR0, HRn.out _, rfl, HRA0, HLA0, hnil⟩
    case round =>
      clear HX HR0 HRA0 HLA0 hnil HRn
      obtain ⟨j, cost, pc, st, qs, n, cp, ce, qa', ca', hj, rfl, rfl, hco, HX, HR, HRS, HLS, HRA, HLA, HCR⟩ := hrel
      have hp0 := HCR.out.2.1.1
      obtain ⟨p, rfl⟩ := Int.eq_ofNat_of_zero_le hp0
      have kC := row2_cells HR.out.2.2.1
      have kA := row1_cells HR.out.1
      have kR := row2_cells HR.out.2.1
      cases gk with
      | zero =>
        have hlt : ¬ ((j : Int) < M) := by omega
        have HE : Hid (cost = X ∧ 0 = T) := by have h := HX.out; rw [run_zero] at h; injection h with h1 h2; exact ⟨h1, h2⟩
        go_wp2
        refine bodyPost_ret (v := .tuple #[.int .i64 cost, .int .i64 0]) (by simp [results, Try.results13, go_sem]) rfl ⟨by rw [HE.out.1, HE.out.2], HR.out.bel⟩
      | succ k =>
        have hlt : (j : Int) < M := by have := HMp.out (by omega); omega
        by_cases hpc : (nc : Int) ≤ (p : Int)
        · have HE : Hid (cost = X ∧ 0 = T) := by have h := HX.out; rw [run_end (by rw [HLC.out]; exact hpc)] at h; injection h with h1 h2; exact ⟨h1, h2⟩
          go_wp2
          refine bodyPost_ret (v := .tuple #[.int .i64 cost, .int .i64 0]) (by simp [results, Try.results13, go_sem]) rfl ⟨by rw [HE.out.1, HE.out.2], HR.out.bel⟩
        · have hpl : p < rl.length := by have := HLC.out; omega
          obtain ⟨g, off, rfl, hcc⟩ := HRC.out (by omega)
          have hgl : g < w.heap.size := World.block_lt_of_cell? w ⟨g, off + 0 * 2, none⟩ (hcc 0 (by omega)).1
          have c1 := (HR.out.bel.cell (p := ⟨g, off + p * 2, none⟩) hgl).trans (hcc p hpl).1
          clear hcc
          obtain ⟨op, hop⟩ : ∃ op, rl[p].1 = op := ⟨_, rfl⟩
          rw [hop] at c1
          have HOP : Hid ((opAt' rl (p : Int)).1 = op) := by show _ = _; rw [opAt_in hpl]; exact hop
          obtain ⟨co, hcoq⟩ : ∃ co, costN op = co := ⟨_, rfl⟩
          have HCO : Hid (costN op = co) := hcoq
          have hcb := costN_bd op
          rw [hcoq] at hcb
          clear hop hcoq
          go_wp2_with fail
          refine (costI' op co HCO.out _).mono ?_
          rintro e w2 ⟨rfl, rfl⟩
          by_cases hd : M < cost + co
          · have HE : Hid (cost = X ∧ 0 = T) := by have h := HX.out; rw [run_dear (co := co) (by rw [HOP.out]; exact HCO.out) hd] at h; injection h with h1 h2; exact ⟨h1, h2⟩
            go_wp2
            refine bodyPost_ret (v := .tuple #[.int .i64 cost, .int .i64 0]) (by simp [results, Try.results13, go_sem]) rfl ⟨by rw [HE.out.1, HE.out.2], HR.out.bel⟩
          · obtain ⟨R, hR⟩ : ∃ R, stepR c (p : Int) st rl ce f s 0 = R := ⟨_, rfl⟩
            have HRR : Hid (stepR c (p : Int) st rl ce f s 0 = R) := hR
            have HPN : Hid (¬ (rl.length : Int) ≤ (p : Int)) := by show ¬ _; rw [HLC.out]; omega
            have HBB : Hid (c = true ↔ (CpuR (p : Int) st ∧ I.CodeR rl ∧ (p : Int) < (nc : Int))) := ⟨fun h => ⟨HCR.out, HC.out.1 h, by omega⟩, fun h => HC.out.2 h.2.1⟩
            have HRI : Hid (R.tr = 0 → CpuR R.pc R.st) := fun h => stepR_right HLC.out HBB.out hR h
            clear hR
            have hn8 : n ≤ 1048576 := by have := HLS.out; have := HCR.out.1; omega
            go_wp2_with fail
            refine (costI' op co HCO.out _).mono ?_
            rintro e w3 ⟨rfl, rfl⟩
            go_wp2_with fail
            refine (aloneI qs (p : Int) st n cp (some ⟨g, off, none⟩) rl nc cc qa' ce m ca' f s c R HLS.out hn8 HLC.out hnc HLA.out hm HBB.out HRR.out _ HRS.out (HRC.out.keep HR.out.bel (Nat.le_refl _)) HRA.out).mono ?_
            rintro e w4 ⟨g2, n2, c2, ga2, ca2, rfl, hown2, hownA, hne, hb4⟩
            have HR4 : Hid (R3 w w4 (.slice qa' m ca') f s (p : Int) (.slice qs n cp)) := HR.out.on hb4
            have h3 := HR.out.lt
            have l2 := hown2.ge
            have lA := hownA.ge
            have HR5 : Hid (R3 w (((w4.setCell ⟨w.heap.size + 1 + 1, 0, none⟩ (.int .i64 R.pc)).setCell ⟨w.heap.size + 1 + 1, 1, none⟩ (.slice (some ⟨g2, 0, none⟩) n2 c2)).setCell ⟨w.heap.size, 0, none⟩ (.slice (some ⟨ga2, 0, none⟩) m ca2)) (.slice (some ⟨ga2, 0, none⟩) m ca2) f s R.pc (.slice (some ⟨g2, 0, none⟩) n2 c2)) := (HR4.out.toC _ _).toA _
            have HO5 : Hid (OwnN (((w4.setCell ⟨w.heap.size + 1 + 1, 0, none⟩ (.int .i64 R.pc)).setCell ⟨w.heap.size + 1 + 1, 1, none⟩ (.slice (some ⟨g2, 0, none⟩) n2 c2)).setCell ⟨w.heap.size, 0, none⟩ (.slice (some ⟨ga2, 0, none⟩) m ca2)) w3.heap.size g2 n2 c2 (aloSt R)) := ((hown2.set (by omega)).set (by omega)).set (by omega)
            have HOA5 : Hid (OwnN (((w4.setCell ⟨w.heap.size + 1 + 1, 0, none⟩ (.int .i64 R.pc)).setCell ⟨w.heap.size + 1 + 1, 1, none⟩ (.slice (some ⟨g2, 0, none⟩) n2 c2)).setCell ⟨w.heap.size, 0, none⟩ (.slice (some ⟨ga2, 0, none⟩) m ca2)) w3.heap.size ga2 m ca2 R.ce) := ((hownA.set (by omega)).set (by omega)).set (by omega)
            have HLA5 : Hid (R.ce.length = m) := hownA.len
            have kC4 := row2_cells HR4.out.2.2.1
            have kA4 := row1_cells HR4.out.1
            clear hown2 hownA hne hb4 HR HRS HRA HLS HLA kC kA kR HR4 h3 l2 lA HBB c1
            by_cases htr : aloTr R = 0
            · rcases op_zero op with rfl | ⟨hop0, hop0'⟩
              · have HE : Hid (cost + co = X ∧ aloTr R = T) := by have h := HX.out; rw [run_stop HRR.out HOP.out HCO.out (by have := HPN.out; omega) (by omega) (.inr rfl)] at h; injection h with h1 h2; exact ⟨h1, h2⟩
                go_wp2
                refine bodyPost_ret (v := .tuple #[.int .i64 (cost + co), .int .i64 0]) (by simp [results, Try.results13, go_sem]) rfl ⟨by rw [HE.out.1, ← HE.out.2, htr], HR5.out.bel⟩
              · have HOZ : Hid (op ≠ 0) := hop0'
                have HX' : Hid (runR c rl f s M k R.pc (aloSt R) R.ce (cost + co) = (X, T)) := by have h := HX.out; rw [run_go HRR.out HOP.out HCO.out (by have := HPN.out; omega) (by omega) htr hop0'] at h; exact h
                have HCR' : Hid (CpuR R.pc (aloSt R)) := putA_right _ _ (HRI.out (alo_zero htr))
                clear hop0' HX HCR
                go_wp2
                go_roundg k
                case measure => omega
                case rel => exact ⟨j + 1, cost + co, R.pc, aloSt R, some ⟨g2, 0, none⟩, n2, c2, R.ce, some ⟨ga2, 0, none⟩, ca2, by omega, by go_num, rfl, ⟨by omega, by omega⟩, HX', HR5, HO5.out.rd, HO5.out.len, HOA5.out.rd, HLA5, HCR'⟩
            · have HE : Hid (cost + co = X ∧ aloTr R = T) := by have h := HX.out; rw [run_stop HRR.out HOP.out HCO.out (by have := HPN.out; omega) (by omega) (.inl htr)] at h; injection h with h1 h2; exact ⟨h1, h2⟩
              have hbt : (aloTr R == 0) = false := by simpa using htr
              go_wp2
              refine bodyPost_ret (v := .tuple #[.int .i64 (cost + co), .int .i64 (aloTr R)]) (by simp [results, Try.results13, go_sem]) rfl ⟨by rw [HE.out.1, HE.out.2], HR5.out.bel⟩
  · subst hmm
    go_wp2
    go_loopg [11, 17] Mn (fun gk cv iv wr => ∃ (j : Nat) (cost pc : Int) (st : List Int) (qs : Option Addr) (n cp : Nat) (ce : List Int) (qa' : Option Addr) (ca' : Nat), j + gk = Mn ∧ iv = .int .i64 j ∧ cv = .int .i64 cost ∧ (0 ≤ cost ∧ cost ≤ 5000) ∧ Hid (runR c rl f s 5000 gk pc st ce cost = (X, T)) ∧ Hid (R3 w wr (.slice qa' m ca') f s pc (.slice qs n cp)) ∧ Hid (Rd wr qs st) ∧ Hid (st.length = n) ∧ Hid (Rd wr qa' ce) ∧ Hid (ce.length = m) ∧ Hid (CpuR pc st))
    case atStart => exact ⟨0, 0, 0, [], none, 0, 0, ce0, qa, ca, by omega, rfl, rfl, ⟨by decide, by decide⟩, HX, HR0, HRn.out _, rfl, HRA0, HLA0, hnil⟩
    case round =>
      clear HX HR0 HRA0 HLA0 hnil HRn
      obtain ⟨j, cost, pc, st, qs, n, cp, ce, qa', ca', hj, rfl, rfl, hco, HX, HR, HRS, HLS, HRA, HLA, HCR⟩ := hrel
      have hp0 := HCR.out.2.1.1
      obtain ⟨p, rfl⟩ := Int.eq_ofNat_of_zero_le hp0
      have kC := row2_cells HR.out.2.2.1
      have kA := row1_cells HR.out.1
      have kR := row2_cells HR.out.2.1
      cases gk with
      | zero =>
        have hlt : ¬ ((j : Int) < 5000) := by omega
        have HE : Hid (cost = X ∧ 0 = T) := by have h := HX.out; rw [run_zero] at h; injection h with h1 h2; exact ⟨h1, h2⟩
        go_wp2
        refine bodyPost_ret (v := .tuple #[.int .i64 cost, .int .i64 0]) (by simp [results, Try.results13, go_sem]) rfl ⟨by rw [HE.out.1, HE.out.2], HR.out.bel⟩
      | succ k =>
        have hlt : (j : Int) < 5000 := by have := HMp.out (by omega); omega
        by_cases hpc : (nc : Int) ≤ (p : Int)
        · have HE : Hid (cost = X ∧ 0 = T) := by have h := HX.out; rw [run_end (by rw [HLC.out]; exact hpc)] at h; injection h with h1 h2; exact ⟨h1, h2⟩
          go_wp2
          refine bodyPost_ret (v := .tuple #[.int .i64 cost, .int .i64 0]) (by simp [results, Try.results13, go_sem]) rfl ⟨by rw [HE.out.1, HE.out.2], HR.out.bel⟩
        · have hpl : p < rl.length := by have := HLC.out; omega
          obtain ⟨g, off, rfl, hcc⟩ := HRC.out (by omega)
          have hgl : g < w.heap.size := World.block_lt_of_cell? w ⟨g, off + 0 * 2, none⟩ (hcc 0 (by omega)).1
          have c1 := (HR.out.bel.cell (p := ⟨g, off + p * 2, none⟩) hgl).trans (hcc p hpl).1
          clear hcc
          obtain ⟨op, hop⟩ : ∃ op, rl[p].1 = op := ⟨_, rfl⟩
          rw [hop] at c1
          have HOP : Hid ((opAt' rl (p : Int)).1 = op) := by show _ = _; rw [opAt_in hpl]; exact hop
          obtain ⟨co, hcoq⟩ : ∃ co, costN op = co := ⟨_, rfl⟩
          have HCO : Hid (costN op = co) := hcoq
          have hcb := costN_bd op
          rw [hcoq] at hcb
          clear hop hcoq
          go_wp2_with fail
          refine (costI' op co HCO.out _).mono ?_
          rintro e w2 ⟨rfl, rfl⟩
          by_cases hd : 5000 < cost + co
          · have HE : Hid (cost = X ∧ 0 = T) := by have h := HX.out; rw [run_dear (co := co) (by rw [HOP.out]; exact HCO.out) hd] at h; injection h with h1 h2; exact ⟨h1, h2⟩
            go_wp2
            refine bodyPost_ret (v := .tuple #[.int .i64 cost, .int .i64 0]) (by simp [results, Try.results13, go_sem]) rfl ⟨by rw [HE.out.1, HE.out.2], HR.out.bel⟩
          · obtain ⟨R, hR⟩ : ∃ R, stepR c (p : Int) st rl ce f s 0 = R := ⟨_, rfl⟩
            have HRR : Hid (stepR c (p : Int) st rl ce f s 0 = R) := hR
            have HPN : Hid (¬ (rl.length : Int) ≤ (p : Int)) := by show ¬ _; rw [HLC.out]; omega
            have HBB : Hid (c = true ↔ (CpuR (p : Int) st ∧ I.CodeR rl ∧ (p : Int) < (nc : Int))) := ⟨fun h => ⟨HCR.out, HC.out.1 h, by omega⟩, fun h => HC.out.2 h.2.1⟩
            have HRI : Hid (R.tr = 0 → CpuR R.pc R.st) := fun h => stepR_right HLC.out HBB.out hR h
            clear hR
            have hn8 : n ≤ 1048576 := by have := HLS.out; have := HCR.out.1; omega
            go_wp2_with fail
            refine (costI' op co HCO.out _).mono ?_
            rintro e w3 ⟨rfl, rfl⟩
            go_wp2_with fail
            refine (aloneI qs (p : Int) st n cp (some ⟨g, off, none⟩) rl nc cc qa' ce m ca' f s c R HLS.out hn8 HLC.out hnc HLA.out hm HBB.out HRR.out _ HRS.out (HRC.out.keep HR.out.bel (Nat.le_refl _)) HRA.out).mono ?_
            rintro e w4 ⟨g2, n2, c2, ga2, ca2, rfl, hown2, hownA, hne, hb4⟩
            have HR4 : Hid (R3 w w4 (.slice qa' m ca') f s (p : Int) (.slice qs n cp)) := HR.out.on hb4
            have h3 := HR.out.lt
            have l2 := hown2.ge
            have lA := hownA.ge
            have HR5 : Hid (R3 w (((w4.setCell ⟨w.heap.size + 1 + 1, 0, none⟩ (.int .i64 R.pc)).setCell ⟨w.heap.size + 1 + 1, 1, none⟩ (.slice (some ⟨g2, 0, none⟩) n2 c2)).setCell ⟨w.heap.size, 0, none⟩ (.slice (some ⟨ga2, 0, none⟩) m ca2)) (.slice (some ⟨ga2, 0, none⟩) m ca2) f s R.pc (.slice (some ⟨g2, 0, none⟩) n2 c2)) := (HR4.out.toC _ _).toA _
            have HO5 : Hid (OwnN (((w4.setCell ⟨w.heap.size + 1 + 1, 0, none⟩ (.int .i64 R.pc)).setCell ⟨w.heap.size + 1 + 1, 1, none⟩ (.slice (some ⟨g2, 0, none⟩) n2 c2)).setCell ⟨w.heap.size, 0, none⟩ (.slice (some ⟨ga2, 0, none⟩) m ca2)) w3.heap.size g2 n2 c2 (aloSt R)) := ((hown2.set (by omega)).set (by omega)).set (by omega)
            have HOA5 : Hid (OwnN (((w4.setCell ⟨w.heap.size + 1 + 1, 0, none⟩ (.int .i64 R.pc)).setCell ⟨w.heap.size + 1 + 1, 1, none⟩ (.slice (some ⟨g2, 0, none⟩) n2 c2)).setCell ⟨w.heap.size, 0, none⟩ (.slice (some ⟨ga2, 0, none⟩) m ca2)) w3.heap.size ga2 m ca2 R.ce) := ((hownA.set (by omega)).set (by omega)).set (by omega)
            have HLA5 : Hid (R.ce.length = m) := hownA.len
            have kC4 := row2_cells HR4.out.2.2.1
            have kA4 := row1_cells HR4.out.1
            clear hown2 hownA hne hb4 HR HRS HRA HLS HLA kC kA kR HR4 h3 l2 lA HBB c1
            by_cases htr : aloTr R = 0
            · rcases op_zero op with rfl | ⟨hop0, hop0'⟩
              · have HE : Hid (cost + co = X ∧ aloTr R = T) := by have h := HX.out; rw [run_stop HRR.out HOP.out HCO.out (by have := HPN.out; omega) (by omega) (.inr rfl)] at h; injection h with h1 h2; exact ⟨h1, h2⟩
                go_wp2
                refine bodyPost_ret (v := .tuple #[.int .i64 (cost + co), .int .i64 0]) (by simp [results, Try.results13, go_sem]) rfl ⟨by rw [HE.out.1, ← HE.out.2, htr], HR5.out.bel⟩
              · have HOZ : Hid (op ≠ 0) := hop0'
                have HX' : Hid (runR c rl f s 5000 k R.pc (aloSt R) R.ce (cost + co) = (X, T)) := by have h := HX.out; rw [run_go HRR.out HOP.out HCO.out (by have := HPN.out; omega) (by omega) htr hop0'] at h; exact h
                have HCR' : Hid (CpuR R.pc (aloSt R)) := putA_right _ _ (HRI.out (alo_zero htr))
                clear hop0' HX HCR
                go_wp2
                go_roundg k
                case measure => omega
                case rel => exact ⟨j + 1, cost + co, R.pc, aloSt R, some ⟨g2, 0, none⟩, n2, c2, R.ce, some ⟨ga2, 0, none⟩, ca2, by omega, by go_num, rfl, ⟨by omega, by omega⟩, HX', HR5, HO5.out.rd, HO5.out.len, HOA5.out.rd, HLA5, HCR'⟩
            · have HE : Hid (cost + co = X ∧ aloTr R = T) := by have h := HX.out; rw [run_stop HRR.out HOP.out HCO.out (by have := HPN.out; omega) (by omega) (.inl htr)] at h; injection h with h1 h2; exact ⟨h1, h2⟩
              have hbt : (aloTr R == 0) = false := by simpa using htr
              go_wp2
              refine bodyPost_ret (v := .tuple #[.int .i64 (cost + co), .int .i64 (aloTr R)]) (by simp [results, Try.results13, go_sem]) rfl ⟨by rw [HE.out.1, HE.out.2], HR5.out.bel⟩
end Go.Proofs.Ythnocibkgpofnaa
