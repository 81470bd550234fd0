/-
  PartView: whether there is such a part.
-/
import Derived.Test.YtfdhcchakoldpaaKCel
import Derived.Test.YtfdhcchakoldpaaKMkK
import Derived.Laws.Cover1
namespace Go.Proofs.Ytfdhcchakoldpaa
open Go.ChangeShapes Go.WideShapes Go.ChangeAt Go.RowKit Go.PlainAid
set_option linter.unusedVariables false

/-- there is such a part: in the parts, in the regions, in the registers -/
def HasP (np nr no : Nat) (p : Int) : Prop := 1 ≤ p ∧ p ≤ np ∧ p ≤ nr ∧ 2 * p ≤ no
theorem half_le {no : Nat} {p : Int} : p ≤ (no : Int).tdiv 2 ↔ 2 * p ≤ no := by
  rw [Int.tdiv_eq_ediv_of_nonneg (by omega)]
  omega
set_option maxRecDepth 100000 in
set_option maxHeartbeats 1000000 in
theorem copyPI (st pc ss en la : Int) (a : Option Addr) (l : List Int) (n cap : Nat) (hl : l.length = n) (hn : n ≤ 1048576) (w : World) (hr : Rd w a l) :
    Calls Try.prog 153 #[.agg #[.int .i64 st, .int .i64 pc, .slice a n cap, .int .i64 ss, .int .i64 en, .int .i64 la]] w fun e w' => ∃ g, e = .returned (.agg #[.int .i64 st, .int .i64 pc, .slice (some ⟨g, 0, none⟩) n n, .int .i64 ss, .int .i64 en, .int .i64 la]) ∧ w.heap.size + 1 < g ∧ RowAt w' g l ∧ Below w.heap.size w w' := by
  have HX : Hid (_ = _) := al2_1 w (.cells #[.int .i64 st, .int .i64 pc, .slice a n cap, .int .i64 ss, .int .i64 en, .int .i64 la] 100) (.cells #[.int .i64 0, .int .i64 0, .slice none 0 0, .int .i64 0, .int .i64 0, .int .i64 0] 100)
  have HY : Hid (_ = _) := al2_2 w (.cells #[.int .i64 st, .int .i64 pc, .slice a n cap, .int .i64 ss, .int .i64 en, .int .i64 la] 100) (.cells #[.int .i64 0, .int .i64 0, .slice none 0 0, .int .i64 0, .int .i64 0, .int .i64 0] 100)
  have HW : Hid (Below _ _ _) := al2_b w (.cells #[.int .i64 st, .int .i64 pc, .slice a n cap, .int .i64 ss, .int .i64 en, .int .i64 la] 100) (.cells #[.int .i64 0, .int .i64 0, .slice none 0 0, .int .i64 0, .int .i64 0, .int .i64 0] 100)
  have HS : Hid (_ = _) := al2_s w (.cells #[.int .i64 st, .int .i64 pc, .slice a n cap, .int .i64 ss, .int .i64 en, .int .i64 la] 100) (.cells #[.int .i64 0, .int .i64 0, .slice none 0 0, .int .i64 0, .int .i64 0, .int .i64 0] 100)
  have HR : Hid (Rd w a l) := hr
  have HL : Hid (l.length = n) := hl
  clear hr hl
  go_enter Try.func153, Try.ntmps153
  go_wp2_with fail
  refine (C.copyCI a pc l n cap HL.out hn _ (HR.out.keep HW.out (Nat.le_refl _))).mono ?_
  rintro e w1 ⟨rfl, hrow, hb1⟩
  rw [HS.out] at hrow ⊢
  obtain ⟨g, hg⟩ : ∃ g, w.heap.size + 2 + 2 = g := ⟨_, rfl⟩
  rw [hg] at hrow ⊢
  have HX1 : Hid (w1.heap[w.heap.size]? = some (.cells #[.int .i64 st, .int .i64 pc, .slice a n cap, .int .i64 ss, .int .i64 en, .int .i64 la] 100)) := row_on HX.out hb1
  have HY1 : Hid (w1.heap[w.heap.size + 1]? = some (.cells #[.int .i64 0, .int .i64 0, .slice none 0 0, .int .i64 0, .int .i64 0, .int .i64 0] 100)) := row_on HY.out hb1
  have HROW : Hid (RowAt w1 g l) := hrow
  have HW1 : Hid (Below w.heap.size w w1) := bel_on (Nat.le_refl _) HW.out hb1
  have HG : Hid (w.heap.size + 1 < g) := (show w.heap.size + 1 < g by omega)
  have kx := box6_cells HX1.out
  clear hrow hb1 HX HY HW HS HR hg
  have HX2 : Hid (((w1.setCell ⟨w.heap.size, 1, none⟩ (.int .i64 pc)).setCell ⟨w.heap.size, 2, none⟩ (.slice (some ⟨g, 0, none⟩) n n)).heap[w.heap.size]? = some (.cells #[.int .i64 st, .int .i64 pc, .slice (some ⟨g, 0, none⟩) n n, .int .i64 ss, .int .i64 en, .int .i64 la] 100)) := set_row5 (set_row5 HX1.out 1 _) 2 _
  have HY2 : Hid (((w1.setCell ⟨w.heap.size, 1, none⟩ (.int .i64 pc)).setCell ⟨w.heap.size, 2, none⟩ (.slice (some ⟨g, 0, none⟩) n n)).heap[w.heap.size + 1]? = some (.cells #[.int .i64 0, .int .i64 0, .slice none 0 0, .int .i64 0, .int .i64 0, .int .i64 0] 100)) := set_far (set_far HY1.out (by omega)) (by omega)
  have HQ2 : Hid (RowAt ((w1.setCell ⟨w.heap.size, 1, none⟩ (.int .i64 pc)).setCell ⟨w.heap.size, 2, none⟩ (.slice (some ⟨g, 0, none⟩) n n)) g l) := set_far (set_far HROW.out (by have := HG.out; omega)) (by have := HG.out; omega)
  have HW2 : Hid (Below w.heap.size w ((w1.setCell ⟨w.heap.size, 1, none⟩ (.int .i64 pc)).setCell ⟨w.heap.size, 2, none⟩ (.slice (some ⟨g, 0, none⟩) n n))) := (HW1.out.setCell (Nat.le_refl _) _).setCell (Nat.le_refl _) _
  go_upto_region 2 with fail
  obtain ⟨w2, hw2⟩ : ∃ x, x = ((w1.setCell ⟨w.heap.size, 1, none⟩ (.int .i64 pc)).setCell ⟨w.heap.size, 2, none⟩ (.slice (some ⟨g, 0, none⟩) n n)) := ⟨_, rfl⟩
  rw [← hw2] at HX2 HY2 HQ2 HW2 ⊢
  clear hw2 kx HX1 HY1 HROW HW1
  have k2 := box6_cells HX2.out
  have z2 := box6_cells HY2.out
  go_wp2
  refine bodyPost_ret (v := .agg #[.int .i64 st, .int .i64 pc, .slice (some ⟨g, 0, none⟩) n n, .int .i64 ss, .int .i64 en, .int .i64 la]) (by simp [results, Try.results153, go_sem, z2]) rfl ⟨g, rfl, HG.out, ?_, ?_⟩
  · exact set_far (set_far (set_far (set_far (set_far (set_far HQ2.out (by have := HG.out; omega)) (by have := HG.out; omega)) (by have := HG.out; omega)) (by have := HG.out; omega)) (by have := HG.out; omega)) (by have := HG.out; omega)
  · exact (((((HW2.out.setCell (show w.heap.size ≤ w.heap.size + 1 by omega) _).setCell (show w.heap.size ≤ w.heap.size + 1 by omega) _).setCell (show w.heap.size ≤ w.heap.size + 1 by omega) _).setCell (show w.heap.size ≤ w.heap.size + 1 by omega) _).setCell (show w.heap.size ≤ w.heap.size + 1 by omega) _).setCell (show w.heap.size ≤ w.heap.size + 1 by omega) _
theorem cutRI (g off n cap j : Nat) (hj : 2 * (j + 1) ≤ n) (hn : n ≤ 1048576) (hc : n ≤ cap) (w : World) :
    Calls Try.prog 155 #[.slice (some ⟨g, off, none⟩) n cap, .int .i64 ((j : Int) + 1)] w fun e w' => e = .returned (.slice (some ⟨g, off + 2 * j, none⟩) 2 2) ∧ w' = w := by
  have e1 : wrap64 (2 * ((j : Int) + 1)) = 2 * ((j : Int) + 1) := wrap64_in (by omega) (by omega)
  go_enter Try.func155, Try.ntmps155
  go_wp2
  go_ret
  exact ⟨by rw [show 2 * (j + 1) - 2 = 2 * j by omega, show 2 * (j + 1) - 2 * j = 2 by omega]; rfl, rfl⟩
set_option maxRecDepth 100000 in
set_option maxHeartbeats 2000000 in
theorem hasI (s : SH) (qA qP qL qO qE : Option Addr) (nA cA nP cP nL cL nO cO nE cE : Nat) (tu : Int) (sp : Bool) (p : Int) (b : Bool) (hb : b = true ↔ HasP nP s.n0 nO p) (m0 : s.n0 ≤ 1048576) (mP : nP ≤ 1048576) (mO : nO ≤ 1048576) (w : World) :
    Calls Try.prog 151 #[.agg #[.slice s.q0 s.n0 s.c0, .slice s.q1 s.n1 s.c1, .slice s.q2 s.n2 s.c2, .slice s.q3 s.n3 s.c3, .slice s.q4 s.n4 s.c4, .slice qA nA cA, .slice qP nP cP, .slice qL nL cL, .slice qO nO cO, .int .i64 tu, .bool sp, .slice qE nE cE], .int .i64 p] w fun e w' => e = .returned (.bool b) ∧ Below w.heap.size w w' := by
  have HB0 : Hid (Below w.heap.size w (w.alloc (.cells #[.slice s.q0 s.n0 s.c0, .slice s.q1 s.n1 s.c1, .slice s.q2 s.n2 s.c2, .slice s.q3 s.n3 s.c3, .slice s.q4 s.n4 s.c4, .slice qA nA cA, .slice qP nP cP, .slice qL nL cL, .slice qO nO cO, .int .i64 tu, .bool sp, .slice qE nE cE] 38))) := (Below.refl _ _).alloc (Nat.le_refl _) _
  have HB : Hid (b = true ↔ HasP nP s.n0 nO p) := hb
  clear hb
  obtain ⟨d, hd⟩ : ∃ d : Int, (nO : Int).tdiv 2 = d := ⟨_, rfl⟩
  have HD : Hid ((nO : Int).tdiv 2 = d) := hd
  have hd0 : 0 ≤ d ∧ d ≤ nO := by rw [← hd, Int.tdiv_eq_ediv_of_nonneg (by omega)]; omega
  have HM : ∀ M : Int, (M = (if d < (if (s.n0 : Int) < nP then (s.n0 : Int) else nP) then d else if (s.n0 : Int) < nP then (s.n0 : Int) else nP)) → decide (1 ≤ p ∧ p ≤ M) = b := by
    intro M hM
    by_cases hk : HasP nP s.n0 nO p
    · rw [HB.out.2 hk]
      obtain ⟨h1, h2, h3, h4⟩ := hk
      have h5 := half_le.2 h4
      rw [HD.out] at h5
      apply decide_eq_true
      refine ⟨h1, ?_⟩
      rw [hM]
      repeat' split
      all_goals omega
    · have hbf : b = false := by
        cases b
        · rfl
        · exact absurd (HB.out.1 rfl) hk
      rw [hbf]
      apply decide_eq_false
      rintro ⟨h1, h2⟩
      apply hk
      rw [hM] at h2
      refine ⟨h1, ?_, ?_, half_le.1 ?_⟩
      · repeat' split at h2
        all_goals omega
      · repeat' split at h2
        all_goals omega
      · rw [HD.out]
        repeat' split at h2
        all_goals omega
  have HMM : Hid (∀ M : Int, (M = (if d < (if (s.n0 : Int) < nP then (s.n0 : Int) else nP) then d else if (s.n0 : Int) < nP then (s.n0 : Int) else nP)) → decide (1 ≤ p ∧ p ≤ M) = b) := HM
  clear HM HB
  by_cases h1 : (s.n0 : Int) < nP
  · by_cases h2 : d < (s.n0 : Int)
    · have hdd : decide (1 ≤ p ∧ p ≤ (d : Int)) = b := HMM.out _ (by simp [h1, h2])
      clear HMM
      go_enter Try.func151, Try.ntmps151
      go_wp2_with fail
      refine (holdsI 1 d p b hdd _).mono ?_
      rintro e w1 ⟨rfl, hb1⟩
      have HW1 : Hid (Below w.heap.size w w1) := bel_on (Nat.le_refl _) HB0.out hb1
      clear hb1
      go_wp2
      go_ret
      exact ⟨rfl, HW1.out⟩
    · have hdd : decide (1 ≤ p ∧ p ≤ (s.n0 : Int)) = b := HMM.out _ (by simp [h1, h2])
      clear HMM
      go_enter Try.func151, Try.ntmps151
      go_wp2_with fail
      refine (holdsI 1 s.n0 p b hdd _).mono ?_
      rintro e w1 ⟨rfl, hb1⟩
      have HW1 : Hid (Below w.heap.size w w1) := bel_on (Nat.le_refl _) HB0.out hb1
      clear hb1
      go_wp2
      go_ret
      exact ⟨rfl, HW1.out⟩
  · by_cases h2 : d < (nP : Int)
    · have hdd : decide (1 ≤ p ∧ p ≤ (d : Int)) = b := HMM.out _ (by simp [h1, h2])
      clear HMM
      go_enter Try.func151, Try.ntmps151
      go_wp2_with fail
      refine (holdsI 1 d p b hdd _).mono ?_
      rintro e w1 ⟨rfl, hb1⟩
      have HW1 : Hid (Below w.heap.size w w1) := bel_on (Nat.le_refl _) HB0.out hb1
      clear hb1
      go_wp2
      go_ret
      exact ⟨rfl, HW1.out⟩
    · have hdd : decide (1 ≤ p ∧ p ≤ (nP : Int)) = b := HMM.out _ (by simp [h1, h2])
      clear HMM
      go_enter Try.func151, Try.ntmps151
      go_wp2_with fail
      refine (holdsI 1 nP p b hdd _).mono ?_
      rintro e w1 ⟨rfl, hb1⟩
      have HW1 : Hid (Below w.heap.size w w1) := bel_on (Nat.le_refl _) HB0.out hb1
      clear hb1
      go_wp2
      go_ret
      exact ⟨rfl, HW1.out⟩
end Go.Proofs.Ytfdhcchakoldpaa
