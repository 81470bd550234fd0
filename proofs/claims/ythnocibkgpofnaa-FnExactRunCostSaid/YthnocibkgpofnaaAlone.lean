/-
  A step of a machine that has nobody beside it.
-/
import Derived.Test.YthnocibkgpofnaaRunM
import Derived.Test.YthnocibkgpofnaaAl
namespace Go.Proofs.Ythnocibkgpofnaa
open Go.RowKit Go.PlainAid
set_option linter.unusedVariables false

theorem ans_ways (k : Int) : k = 14 ∨ k = 13 ∨ k = 15 ∨ ((k == 14) = false ∧ (k == 13) = false ∧ (k == 15) = false ∧ ansN k = 0) := by
  by_cases h1 : k = 14
  · exact .inl h1
  · by_cases h2 : k = 13
    · exact .inr (.inl h2)
    · by_cases h3 : k = 15
      · exact .inr (.inr (.inl h3))
      · refine .inr (.inr (.inr ⟨by simpa using h1, by simpa using h2, by simpa using h3, ?_⟩))
        unfold ansN
        rw [if_neg h1, if_neg (by omega)]
theorem answersI (k : Int) (w : World) : Calls Try.prog 61 #[.int .i64 k] w fun e w' => e = .returned (.int .i64 (ansN k : Int)) ∧ w' = w := by
  rcases ans_ways k with rfl | rfl | rfl | ⟨h1, h2, h3, h4⟩
  all_goals
    go_enter Try.func61, Try.ntmps61
    go_wp2
    go_ret
    first | exact ⟨rfl, rfl⟩ | exact ⟨by rw [h4]; rfl, rfl⟩
theorem answersS (k : Int) (w : World) : Calls Try.prog 29 #[.int .i64 k] w fun e w' => e = .returned (.int .i64 (ansN k : Int)) ∧ w' = w := by
  rcases ans_ways k with rfl | rfl | rfl | ⟨h1, h2, h3, h4⟩
  all_goals
    go_enter Try.func29, Try.ntmps29
    go_wp2
    go_ret
    first | exact ⟨rfl, rfl⟩ | exact ⟨by rw [h4]; rfl, rfl⟩
theorem ansN_le (k : Int) : ansN k ≤ 2 := by
  rcases ans_ways k with rfl | rfl | rfl | ⟨_, _, _, h4⟩
  · decide
  · decide
  · decide
  · omega

theorem answersI' (k : Int) (K : Nat) (hK : ansN k = K) (w : World) : Calls Try.prog 61 #[.int .i64 k] w fun e w' => e = .returned (.int .i64 (K : Int)) ∧ w' = w := by
  subst hK; exact answersI k w
theorem answersS' (k : Int) (K : Nat) (hK : ansN k = K) (w : World) : Calls Try.prog 29 #[.int .i64 k] w fun e w' => e = .returned (.int .i64 (K : Int)) ∧ w' = w := by
  subst hK; exact answersS k w
/-- what a step alone hands back -/
def AlonePost (w : World) (m : Nat) (R : Res) (e : Ending) (w' : World) : Prop :=
  ∃ g2 n2 c2 ga2 ca2, e = .returned (.tuple #[.agg #[.int .i64 R.pc, .slice (some ⟨g2, 0, none⟩) n2 c2], .agg #[.slice (some ⟨ga2, 0, none⟩) m ca2], .int .i64 (aloTr R)]) ∧ OwnN w' w.heap.size g2 n2 c2 (aloSt R) ∧ OwnN w' w.heap.size ga2 m ca2 R.ce ∧ g2 ≠ ga2 ∧ Below w.heap.size w w'
/-- the boxes of a step alone -/
def A5 (w W : World) (pc : Int) (sv av : Value) : Prop :=
  W.heap[w.heap.size]? = some (.cells #[.int .i64 pc, sv] 55) ∧ W.heap[w.heap.size + 1]? = some (.cells #[av] 34) ∧ W.heap[w.heap.size + 1 + 1 + 1]? = some (.cells #[.int .i64 0, .slice none 0 0] 55) ∧ W.heap[w.heap.size + 1 + 1 + 1 + 1]? = some (.cells #[.slice none 0 0] 34) ∧ Below w.heap.size w W
theorem a5_start (w : World) (pc : Int) (sv av : Value) (o : Obj) : A5 w (((((w.alloc (.cells #[.int .i64 pc, sv] 55)).alloc (.cells #[av] 34)).alloc o).alloc (.cells #[.int .i64 0, .slice none 0 0] 55)).alloc (.cells #[.slice none 0 0] 34)) pc sv av :=
  ⟨al5_1 w _ _ _ _ _, al5_2 w _ _ _ _ _, al5_4 w _ _ _ _ _, al5_5 w _ _ _ _ _, al5_b w _ _ _ _ _⟩
section
variable {w W W' : World} {pc : Int} {sv av : Value}
theorem A5.on (h : A5 w W pc sv av) (hb : Below W.heap.size W W') : A5 w W' pc sv av :=
  ⟨row_on h.1 hb, row_on h.2.1 hb, row_on h.2.2.1 hb, row_on h.2.2.2.1 hb, bel_on (Nat.le_refl _) h.2.2.2.2 hb⟩
theorem A5.lt (h : A5 w W pc sv av) : w.heap.size + 5 ≤ W.heap.size := row_lt h.2.2.2.1
theorem A5.bel (h : A5 w W pc sv av) : Below w.heap.size w W := h.2.2.2.2
theorem A5.toC (h : A5 w W pc sv av) (p : Int) (v : Value) : A5 w ((W.setCell ⟨w.heap.size, 0, none⟩ (.int .i64 p)).setCell ⟨w.heap.size, 1, none⟩ v) p v av :=
  ⟨two_sets h.1, set_other (set_other h.2.1 (by omega)) (by omega), set_other (set_other h.2.2.1 (by omega)) (by omega), set_other (set_other h.2.2.2.1 (by omega)) (by omega), (h.bel.setCell (p := ⟨w.heap.size, 0, none⟩) (Nat.le_refl _) _).setCell (p := ⟨w.heap.size, 1, none⟩) (Nat.le_refl _) _⟩
theorem A5.toA (h : A5 w W pc sv av) (v : Value) : A5 w (W.setCell ⟨w.heap.size + 1, 0, none⟩ v) pc sv v :=
  ⟨set_other h.1 (by omega), set1_row (i := 0) h.2.1, set_other h.2.2.1 (by omega), set_other h.2.2.2.1 (by omega), h.bel.setCell (p := ⟨w.heap.size + 1, 0, none⟩) (by show w.heap.size ≤ w.heap.size + 1; omega) _⟩
theorem A5.put (h : A5 w W pc sv av) {k : Nat} (i : Nat) (v : Value) (hk : w.heap.size + 5 ≤ k) : A5 w (W.setCell ⟨k, i, none⟩ v) pc sv av :=
  ⟨set_other h.1 (by omega), set_other h.2.1 (by omega), set_other h.2.2.1 (by omega), set_other h.2.2.2.1 (by omega), h.bel.setCell (p := ⟨k, i, none⟩) (by show w.heap.size ≤ k; omega) _⟩
end
theorem sz_set (W : World) (p : Addr) (v : Value) : (W.setCell p v).heap.size = W.heap.size := by simp
/-- .. a step, its answer and its effect stored -/
theorem a5_step {w w1 : World} {pc : Int} {sv av : Value} {R : Res} {g2 N c2 ga2 m ca2 : Nat} (h : A5 w w1 pc sv av) (h2 : OwnN w1 (w.heap.size + 5) g2 N c2 R.st) (hA : OwnN w1 (w.heap.size + 5) ga2 m ca2 R.ce) :
    A5 w ((((((((w1.alloc (.cells #[.int .i64 0, .int .i64 0, .int .i64 0, .int .i64 0] 58)).setCell ⟨w.heap.size, 0, none⟩ (.int .i64 R.pc)).setCell ⟨w.heap.size, 1, none⟩ (.slice (some ⟨g2, 0, none⟩) N c2)).setCell ⟨w.heap.size + 1, 0, none⟩ (.slice (some ⟨ga2, 0, none⟩) m ca2)).setCell ⟨w1.heap.size, 0, none⟩ (.int .i64 R.k)).setCell ⟨w1.heap.size, 1, none⟩ (.int .i64 R.po)).setCell ⟨w1.heap.size, 2, none⟩ (.int .i64 R.nu)).setCell ⟨w1.heap.size, 3, none⟩ (.int .i64 R.tr)) R.pc (.slice (some ⟨g2, 0, none⟩) N c2) (.slice (some ⟨ga2, 0, none⟩) m ca2) ∧ ((((((((w1.alloc (.cells #[.int .i64 0, .int .i64 0, .int .i64 0, .int .i64 0] 58)).setCell ⟨w.heap.size, 0, none⟩ (.int .i64 R.pc)).setCell ⟨w.heap.size, 1, none⟩ (.slice (some ⟨g2, 0, none⟩) N c2)).setCell ⟨w.heap.size + 1, 0, none⟩ (.slice (some ⟨ga2, 0, none⟩) m ca2)).setCell ⟨w1.heap.size, 0, none⟩ (.int .i64 R.k)).setCell ⟨w1.heap.size, 1, none⟩ (.int .i64 R.po)).setCell ⟨w1.heap.size, 2, none⟩ (.int .i64 R.nu)).setCell ⟨w1.heap.size, 3, none⟩ (.int .i64 R.tr)).heap[w1.heap.size]? = some (.cells #[.int .i64 R.k, .int .i64 R.po, .int .i64 R.nu, .int .i64 R.tr] 58) ∧ OwnN ((((((((w1.alloc (.cells #[.int .i64 0, .int .i64 0, .int .i64 0, .int .i64 0] 58)).setCell ⟨w.heap.size, 0, none⟩ (.int .i64 R.pc)).setCell ⟨w.heap.size, 1, none⟩ (.slice (some ⟨g2, 0, none⟩) N c2)).setCell ⟨w.heap.size + 1, 0, none⟩ (.slice (some ⟨ga2, 0, none⟩) m ca2)).setCell ⟨w1.heap.size, 0, none⟩ (.int .i64 R.k)).setCell ⟨w1.heap.size, 1, none⟩ (.int .i64 R.po)).setCell ⟨w1.heap.size, 2, none⟩ (.int .i64 R.nu)).setCell ⟨w1.heap.size, 3, none⟩ (.int .i64 R.tr)) (w.heap.size + 5) g2 N c2 R.st ∧ OwnN ((((((((w1.alloc (.cells #[.int .i64 0, .int .i64 0, .int .i64 0, .int .i64 0] 58)).setCell ⟨w.heap.size, 0, none⟩ (.int .i64 R.pc)).setCell ⟨w.heap.size, 1, none⟩ (.slice (some ⟨g2, 0, none⟩) N c2)).setCell ⟨w.heap.size + 1, 0, none⟩ (.slice (some ⟨ga2, 0, none⟩) m ca2)).setCell ⟨w1.heap.size, 0, none⟩ (.int .i64 R.k)).setCell ⟨w1.heap.size, 1, none⟩ (.int .i64 R.po)).setCell ⟨w1.heap.size, 2, none⟩ (.int .i64 R.nu)).setCell ⟨w1.heap.size, 3, none⟩ (.int .i64 R.tr)) (w.heap.size + 5) ga2 m ca2 R.ce := by
  have hlt := h.lt
  have n2 := h2.ge
  have l2 := h2.lt
  have nA := hA.ge
  have lA := hA.lt
  refine ⟨?_, ?_, ?_, ?_⟩
  · exact (((((((h.on ((Below.refl _ _).alloc (Nat.le_refl _) _)).toC _ _).toA _).put 0 _ hlt).put 1 _ hlt).put 2 _ hlt).put 3 _ hlt)
  · exact set1_row (i := 3) (set1_row (i := 2) (set1_row (i := 1) (set1_row (i := 0) (set_other (set_other (set_other (heap_new w1 _) (by omega)) (by omega)) (by omega)))))
  · exact (((((((h2.alloc _).set (by omega)).set (by omega)).set (by omega)).set (by omega)).set (by omega)).set (by omega)).set (by omega)
  · exact (((((((hA.alloc _).set (by omega)).set (by omega)).set (by omega)).set (by omega)).set (by omega)).set (by omega)).set (by omega)

theorem a5_fin {w W : World} {pc : Int} {sv av : Value} {R : Res} {g n c ga m ca : Nat} {T : Int} (h : A5 w W pc sv av) (ho : OwnN W (w.heap.size + 5) g n c (aloSt R)) (hA : OwnN W (w.heap.size + 5) ga m ca R.ce) (hne : g ≠ ga) (hT : aloTr R = T) :
    AlonePost w m R (.returned (.tuple #[.agg #[.int .i64 R.pc, .slice (some ⟨g, 0, none⟩) n c], .agg #[.slice (some ⟨ga, 0, none⟩) m ca], .int .i64 T])) (((W.setCell ⟨w.heap.size + 1 + 1 + 1, 0, none⟩ (.int .i64 R.pc)).setCell ⟨w.heap.size + 1 + 1 + 1, 1, none⟩ (.slice (some ⟨g, 0, none⟩) n c)).setCell ⟨w.heap.size + 1 + 1 + 1 + 1, 0, none⟩ (.slice (some ⟨ga, 0, none⟩) m ca)).drew := by
  subst hT
  have g1 := ho.ge
  have g2 := hA.ge
  refine ⟨g, n, c, ga, ca, rfl, ?_, ?_, hne, ?_⟩
  · exact ((((ho.set (by omega)).set (by omega)).set (by omega)).drew).mono (by omega)
  · exact ((((hA.set (by omega)).set (by omega)).set (by omega)).drew).mono (by omega)
  · exact (((h.bel.setCell (p := ⟨w.heap.size + 1 + 1 + 1, 0, none⟩) (by show w.heap.size ≤ w.heap.size + 1 + 1 + 1; omega) _).setCell (p := ⟨w.heap.size + 1 + 1 + 1, 1, none⟩) (by show w.heap.size ≤ w.heap.size + 1 + 1 + 1; omega) _).setCell (p := ⟨w.heap.size + 1 + 1 + 1 + 1, 0, none⟩) (by show w.heap.size ≤ w.heap.size + 1 + 1 + 1 + 1; omega) _).drew

set_option maxRecDepth 100000 in
set_option maxHeartbeats 1000000 in
theorem aloneI (qs : Option Addr) (pc : Int) (st : List Int) (n cp : Nat) (qc : Option Addr) (rl : List (Int × Int)) (nc cc : Nat) (qa : Option Addr) (ce : List Int) (m ca : Nat) (f s : Int) (b : Bool) (R : Res) (hl : st.length = n) (hn : n ≤ 1048576) (hlc : rl.length = nc) (hnc : nc ≤ 1048576) (hla : ce.length = m) (hm : m ≤ 1048576) (hb : b = true ↔ (CpuR pc st ∧ I.CodeR rl ∧ pc < (nc : Int))) (hR : stepR b pc st rl ce f s 0 = R) (w : World) (hr : Rd w qs st) (hrc : I.RdR w qc rl) (hra : Rd w qa ce) :
    Calls Try.prog 34 #[.agg #[.int .i64 pc, .slice qs n cp], .slice qc nc cc, .agg #[.slice qa m ca], .agg #[.int .i64 f, .int .i64 s]] w (AlonePost w m R) := by
  have HR : Hid (Rd w qs st) := hr
  have HRC : Hid (I.RdR w qc rl) := hrc
  have HRA : Hid (Rd w qa ce) := hra
  have HL : Hid (st.length = n) := hl
  have HLC : Hid (rl.length = nc) := hlc
  have HLA : Hid (ce.length = m) := hla
  have HB : Hid (b = true ↔ (CpuR pc st ∧ I.CodeR rl ∧ pc < (nc : Int))) := hb
  have HRR : Hid (stepR b pc st rl ce f s 0 = R) := hR
  have HRI : Hid (R.tr = 0 → CpuR R.pc R.st) := fun h => stepR_right hlc hb hR h
  have HRT : Hid (R.tr ≠ 0 → R = trapR pc st ce R.tr) := fun h => stepR_trap hR h
  obtain ⟨N, hN⟩ : ∃ N, R.st.length = N := ⟨_, rfl⟩
  have HN : Hid (R.st.length = N) := hN
  have HA0 : Hid (A5 w _ pc (.slice qs n cp) (.slice qa m ca)) := a5_start w pc (.slice qs n cp) (.slice qa m ca) (.cells #[.int .i64 f, .int .i64 s] 36)
  clear hr hrc hra hl hlc hla hb hR hN
  go_enter Try.func34, Try.ntmps34
  go_wp2_with fail
  refine (stepI qs pc st n cp qc rl nc cc qa ce m ca f s 0 b R N HL.out hn HLC.out hnc HLA.out hm HB.out HRR.out HN.out _ (HR.out.keep HA0.out.bel (Nat.le_refl _)) (HRC.out.keep HA0.out.bel (Nat.le_refl _)) (HRA.out.keep HA0.out.bel (Nat.le_refl _))).mono ?_
  rintro e w1 ⟨g2, c2, ga2, ca2, rfl, hown2, hownA, hne, hb1⟩
  have HA1 : Hid (A5 w w1 pc (.slice qs n cp) (.slice qa m ca)) := HA0.out.on hb1
  have HS : Hid (_ ∧ _) := a5_step (R := R) HA1.out (hown2.mono HA0.out.lt) (hownA.mono HA0.out.lt)
  have HNE : Hid (g2 ≠ ga2) := hne
  have HW1 : Hid (A5 w (w1.alloc (.cells #[.int .i64 0, .int .i64 0, .int .i64 0, .int .i64 0] 58)) pc (.slice qs n cp) (.slice qa m ca)) := HA1.out.on ((Below.refl _ _).alloc (Nat.le_refl _) _)
  have k0 := row2_cells HW1.out.1
  have k1 := row1_cells HW1.out.2.1
  have k2 := row4_cells (heap_new w1 (.cells #[.int .i64 0, .int .i64 0, .int .i64 0, .int .i64 0] 58))
  have kE := (row4_cells HS.out.2.1).1
  clear hown2 hownA hne hb1 HA0 HW1
  have hlt := HA1.out.lt
  obtain ⟨Kn, hKn⟩ : ∃ Kn, ansN R.k = Kn := ⟨_, rfl⟩
  have HK : Hid (ansN R.k = Kn) := hKn
  have hK2 : Kn ≤ 2 := by rw [← hKn]; exact ansN_le _
  have HKR : Hid (0 < Kn → CpuR R.pc R.st) := fun h => HRI.out (by
    by_cases h0 : R.tr = 0
    · exact h0
    · exfalso
      have e : R.k = 0 := by rw [HRT.out h0]; rfl
      rw [e] at hKn
      have : ansN 0 = 0 := rfl
      omega)
  obtain ⟨ok, hok⟩ : ∃ ok, putA Kn R.st = (aloSt R, ok) := ⟨(putA Kn R.st).2, by unfold aloSt; rw [hKn]⟩
  have HP : Hid (putA Kn R.st = (aloSt R, ok)) := hok
  have HTR : Hid (aloTr R = if ok then R.tr else 4) := by show aloTr R = _; unfold aloTr; rw [hKn, hok]
  clear hKn hok
  go_wp2_with fail
  refine (answersI' R.k Kn HK.out _).mono ?_
  rintro e w2 ⟨rfl, hw2⟩
  obtain ⟨KE, hKE⟩ : ∃ KE, w1.heap.size = KE := ⟨_, rfl⟩
  have hKl : w.heap.size + 5 ≤ KE := by rw [← hKE]; exact hlt
  have HS2 : Hid (A5 w w2 R.pc (.slice (some ⟨g2, 0, none⟩) N c2) (.slice (some ⟨ga2, 0, none⟩) m ca2) ∧ w2.heap[KE]? = some (.cells #[.int .i64 R.k, .int .i64 R.po, .int .i64 R.nu, .int .i64 R.tr] 58) ∧ OwnN w2 (w.heap.size + 5) g2 N c2 R.st ∧ OwnN w2 (w.heap.size + 5) ga2 m ca2 R.ce) := by rw [hw2, ← hKE]; exact HS.out
  clear hw2 HS k0 k1 k2 kE HA1 hlt
  rw [hKE]
  clear hKE
  go_wp2
  go_loopg [26] Kn (fun gk iv wr => ∃ (j : Nat) (st' : List Int) (g' n' c' : Nat), j + gk = Kn ∧ iv = .int .i64 j ∧ Hid (putA gk st' = (aloSt R, ok)) ∧ Hid (0 < Kn → CpuR R.pc st') ∧ Hid (A5 w wr R.pc (.slice (some ⟨g', 0, none⟩) n' c') (.slice (some ⟨ga2, 0, none⟩) m ca2)) ∧ Hid (wr.heap[KE]? = some (.cells #[.int .i64 R.k, .int .i64 R.po, .int .i64 R.nu, .int .i64 R.tr] 58)) ∧ Hid (OwnN wr (w.heap.size + 5) g' n' c' st') ∧ Hid (OwnN wr (w.heap.size + 5) ga2 m ca2 R.ce) ∧ Hid (g' ≠ ga2))
  case atStart => exact ⟨0, R.st, g2, N, c2, by omega, rfl, HP, HKR, HS2.out.1, HS2.out.2.1, HS2.out.2.2.1, HS2.out.2.2.2, HNE⟩
  case round =>
    clear HP HKR HS2 HNE
    obtain ⟨j, st', g', n', c', hj, rfl, HP, HKR, HA, HE, HO, HOA, HNE⟩ := hrel
    have kC := row2_cells HA.out.1
    have kA := row1_cells HA.out.2.1
    have kE := row4_cells HE.out
    have kz := row2_cells HA.out.2.2.1
    have ky := row1_cells HA.out.2.2.2.1
    cases gk with
    | succ g =>
      have hjK : j < Kn := by omega
      have hCR : Hid (CpuR R.pc st') := HKR.out (by omega)
      have hst : Hid (st'.length = n') := HO.out.len
      have hn8 : n' ≤ 8 := by rw [← HO.out.len]; exact hCR.out.1
      by_cases h8 : n' = 8
      · subst h8
        have e8 : st'.length = 8 := HO.out.len
        have hp := HP.out
        rw [putA_full e8] at hp
        injection hp with hp1 hp2
        have HFIN : Hid (aloTr R = 4) := by show aloTr R = 4; rw [HTR.out, ← hp2]; rfl
        have HST : Hid (st' = aloSt R) := hp1
        clear hp1 hp2 e8
        go_wp2_with fail
        refine (answerI' (some ⟨g', 0, none⟩) R.pc st' 8 c' 0 false 8 st' hst.out (by omega) ⟨(fun h => by cases h), (fun h => (h.2 rfl).elim)⟩ rfl rfl _ HO.out.rd).mono ?_
        rintro e w3 ⟨g3, c3, rfl, hown3, hb3⟩
        have HA3 : Hid (A5 w (w3.alloc (.cells #[.int .i64 R.pc, .slice (some ⟨g3, 0, none⟩) 8 c3] 55)) R.pc (.slice (some ⟨g', 0, none⟩) 8 c') (.slice (some ⟨ga2, 0, none⟩) m ca2)) := (HA.out.on hb3).on ((Below.refl _ _).alloc (Nat.le_refl _) _)
        have HO3 : Hid (OwnN (w3.alloc (.cells #[.int .i64 R.pc, .slice (some ⟨g3, 0, none⟩) 8 c3] 55)) (w.heap.size + 5) g' 8 c' st') := (HO.out.on hb3).alloc _
        have HOA3 : Hid (OwnN (w3.alloc (.cells #[.int .i64 R.pc, .slice (some ⟨g3, 0, none⟩) 8 c3] 55)) (w.heap.size + 5) ga2 m ca2 R.ce) := (HOA.out.on hb3).alloc _
        have kC := row2_cells HA3.out.1
        have kA := row1_cells HA3.out.2.1
        have kz := row2_cells HA3.out.2.2.1
        have ky := row1_cells HA3.out.2.2.2.1
        clear hown3 hb3 HA HO HOA HE
        go_wp2
        go_region
        go_wp2
        refine bodyPost_ret (v := .tuple #[.agg #[.int .i64 R.pc, .slice (some ⟨g', 0, none⟩) 8 c'], .agg #[.slice (some ⟨ga2, 0, none⟩) m ca2], .int .i64 4]) (by simp [results, Try.results34, go_sem, kz, ky]) rfl ?_
        exact a5_fin HA3.out (by rw [← HST.out]; exact HO3.out) HOA3.out HNE.out HFIN.out
      · obtain ⟨n3, hn3⟩ : ∃ n3, n' + 1 = n3 := ⟨_, rfl⟩
        have HN3 : Hid (n' + 1 = n3) := hn3
        have e8 : st'.length ≠ 8 := by rw [HO.out.len]; exact h8
        have HP' : Hid (putA g (st' ++ [0]) = (aloSt R, ok)) := by show _ = _; rw [← putA_more e8]; exact HP.out
        have HKR' : Hid (0 < Kn → CpuR R.pc (st' ++ [0])) := fun _ => cpuR_put hCR.out hCR.out.2.1.1 hCR.out.2.1.2 (by have := hCR.out.1; omega) isW_zero
        have H8 : Hid (n' ≠ 8) := h8
        clear e8 h8 HP HKR hn3
        go_wp2_with fail
        refine (answerI' (some ⟨g', 0, none⟩) R.pc st' n' c' 0 true n3 (st' ++ [0]) hst.out (by omega) ⟨(fun _ => ⟨hCR.out, H8.out⟩), (fun _ => rfl)⟩ HN3.out rfl _ HO.out.rd).mono ?_
        rintro e w3 ⟨g3, c3, rfl, hown3, hb3⟩
        have HA3 : Hid (A5 w (w3.alloc (.cells #[.int .i64 R.pc, .slice (some ⟨g3, 0, none⟩) n3 c3] 55)) R.pc (.slice (some ⟨g', 0, none⟩) n' c') (.slice (some ⟨ga2, 0, none⟩) m ca2)) := (HA.out.on hb3).on ((Below.refl _ _).alloc (Nat.le_refl _) _)
        have hAl := HA.out.lt
        have h3l := hown3.lt
        have h3g := hown3.ge
        have hAg := HOA.out.lt
        have HA4 : Hid (A5 w (((w3.alloc (.cells #[.int .i64 R.pc, .slice (some ⟨g3, 0, none⟩) n3 c3] 55)).setCell ⟨w.heap.size, 0, none⟩ (.int .i64 R.pc)).setCell ⟨w.heap.size, 1, none⟩ (.slice (some ⟨g3, 0, none⟩) n3 c3)) R.pc (.slice (some ⟨g3, 0, none⟩) n3 c3) (.slice (some ⟨ga2, 0, none⟩) m ca2)) := HA3.out.toC _ _
        have HE4 : Hid ((((w3.alloc (.cells #[.int .i64 R.pc, .slice (some ⟨g3, 0, none⟩) n3 c3] 55)).setCell ⟨w.heap.size, 0, none⟩ (.int .i64 R.pc)).setCell ⟨w.heap.size, 1, none⟩ (.slice (some ⟨g3, 0, none⟩) n3 c3)).heap[KE]? = some (.cells #[.int .i64 R.k, .int .i64 R.po, .int .i64 R.nu, .int .i64 R.tr] 58)) := set_other (set_other (row_al (row_on HE.out hb3)) (by omega)) (by omega)
        have HO4 : Hid (OwnN (((w3.alloc (.cells #[.int .i64 R.pc, .slice (some ⟨g3, 0, none⟩) n3 c3] 55)).setCell ⟨w.heap.size, 0, none⟩ (.int .i64 R.pc)).setCell ⟨w.heap.size, 1, none⟩ (.slice (some ⟨g3, 0, none⟩) n3 c3)) (w.heap.size + 5) g3 n3 c3 (st' ++ [0])) := (((hown3.mono hAl).alloc _).set (by omega)).set (by omega)
        have HOA4 : Hid (OwnN (((w3.alloc (.cells #[.int .i64 R.pc, .slice (some ⟨g3, 0, none⟩) n3 c3] 55)).setCell ⟨w.heap.size, 0, none⟩ (.int .i64 R.pc)).setCell ⟨w.heap.size, 1, none⟩ (.slice (some ⟨g3, 0, none⟩) n3 c3)) (w.heap.size + 5) ga2 m ca2 R.ce) := (((HOA.out.on hb3).alloc _).set (by have := HOA.out.ge; omega)).set (by have := HOA.out.ge; omega)
        have HNE4 : Hid (g3 ≠ ga2) := by show g3 ≠ ga2; omega
        have kC3 := row2_cells HA3.out.1
        have kN3 := row2_cells (heap_new w3 (.cells #[.int .i64 R.pc, .slice (some ⟨g3, 0, none⟩) n3 c3] 55))
        clear hown3 hb3 HA HO HOA HE HA3 h3l h3g hAg kC kA kE kz ky hst
        go_wp2
        go_roundg g
        case measure => omega
        case rel => exact ⟨j + 1, st' ++ [0], g3, n3, c3, by omega, by go_num, HP', HKR', HA4, HE4, HO4, HOA4, HNE4⟩
    | zero =>
      obtain rfl : j = Kn := by omega
      have hp := HP.out
      rw [putA_zero] at hp
      injection hp with hp1 hp2
      have HFIN : Hid (aloTr R = R.tr) := by show aloTr R = R.tr; rw [HTR.out, ← hp2]; rfl
      have HST : Hid (st' = aloSt R) := hp1
      clear hp1 hp2
      go_wp2
      go_region
      go_wp2
      refine bodyPost_ret (v := .tuple #[.agg #[.int .i64 R.pc, .slice (some ⟨g', 0, none⟩) n' c'], .agg #[.slice (some ⟨ga2, 0, none⟩) m ca2], .int .i64 R.tr]) (by simp [results, Try.results34, go_sem, kz, ky]) rfl ?_
      exact a5_fin HA.out (by rw [← HST.out]; exact HO.out) HOA.out HNE.out HFIN.out
end Go.Proofs.Ythnocibkgpofnaa
