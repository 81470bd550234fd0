/-
  A part of one kernel held against a part of another, of the program.
-/
import Derived.Test.YtfdhcchakoldpaaSamL
import Derived.Test.YtfdhcchakoldpaaKPvX
namespace Go.Proofs.Ytfdhcchakoldpaa
open Go.ChangeShapes Go.WideShapes Go.ChangeAt Go.RowKit Go.PlainAid
set_option linter.unusedVariables false

theorem cells_six {w : World} {k : Nat} {t : TypeId} {x0 x1 x2 x3 x4 x5 : Value} (h : w.heap[k]? = some (.cells #[x0, x1, x2, x3, x4, x5] t)) : w.cell? ⟨k, 0, none⟩ = some x0 ∧ w.cell? ⟨k, 1, none⟩ = some x1 ∧ w.cell? ⟨k, 2, none⟩ = some x2 ∧ w.cell? ⟨k, 3, none⟩ = some x3 ∧ w.cell? ⟨k, 4, none⟩ = some x4 ∧ w.cell? ⟨k, 5, none⟩ = some x5 := by
  refine ⟨?_, ?_, ?_, ?_, ?_, ?_⟩ <;> simp [World.cell?, h]
theorem same_ex (l l' : List Int) : ∃ R : Bool, R = true ↔ l = l' := ⟨decide (l = l'), by simp⟩
/-- the two parts are the same -/
def SameP (Q Q' : PX) : Prop := Q.st = Q'.st ∧ Q.pc = Q'.pc ∧ Q.sk = Q'.sk ∧ Q.ss = Q'.ss ∧ Q.en = Q'.en ∧ Q.la = Q'.la
set_option maxRecDepth 100000 in
set_option maxHeartbeats 4000000 in
theorem samePI (st pc ss en la st' pc' ss' en' la' : Int) (sk sk' : List Int) (a a' : Option Addr) (n n' c c' : Nat) (hl : sk.length = n) (hl' : sk'.length = n') (hn : n ≤ 1048576) (hn' : n' ≤ 1048576) (R : Bool)
    (hR : R = true ↔ SameP ⟨st, pc, sk, ss, en, la⟩ ⟨st', pc', sk', ss', en', la'⟩) (w : World) (hr : Rd w a sk) (hr' : Rd w a' sk') :
    Calls Try.prog 92 #[.agg #[.int .i64 st, .int .i64 pc, .slice a n c, .int .i64 ss, .int .i64 en, .int .i64 la], .agg #[.int .i64 st', .int .i64 pc', .slice a' n' c', .int .i64 ss', .int .i64 en', .int .i64 la']] w fun e w' => e = .returned (.bool R) ∧ Below w.heap.size w w' := by
  have HR : Hid (R = true ↔ (st = st' ∧ pc = pc' ∧ sk = sk' ∧ ss = ss' ∧ en = en' ∧ la = la')) := hR
  have hF : ¬ (st = st' ∧ pc = pc' ∧ sk = sk' ∧ ss = ss' ∧ en = en' ∧ la = la') → R = false := fun h => by cases hq : R; rfl; exact absurd (HR.out.1 hq) h
  have HF : Hid (¬ (st = st' ∧ pc = pc' ∧ sk = sk' ∧ ss = ss' ∧ en = en' ∧ la = la') → R = false) := hF
  have HL : Hid (sk.length = n) := hl
  have HL' : Hid (sk'.length = n') := hl'
  obtain ⟨W0, hW0⟩ : ∃ W0, ((w.alloc (.cells #[.int .i64 st, .int .i64 pc, .slice a n c, .int .i64 ss, .int .i64 en, .int .i64 la] 100)).alloc (.cells #[.int .i64 st', .int .i64 pc', .slice a' n' c', .int .i64 ss', .int .i64 en', .int .i64 la'] 100)) = W0 := ⟨_, rfl⟩
  have HB0 : Hid (Below w.heap.size w W0) := by rw [← hW0]; exact ((Below.refl _ _).alloc (Nat.le_refl _) _).alloc (by simp) _
  have HX0 : Hid (W0.heap[w.heap.size]? = some (.cells #[.int .i64 st, .int .i64 pc, .slice a n c, .int .i64 ss, .int .i64 en, .int .i64 la] 100)) := by rw [← hW0]; exact (Below.heap_alloc _ _ _ (row_lt (heap_new w _))).trans (heap_new w _)
  have HY0 : Hid (W0.heap[w.heap.size + 1]? = some (.cells #[.int .i64 st', .int .i64 pc', .slice a' n' c', .int .i64 ss', .int .i64 en', .int .i64 la'] 100)) := by
    rw [← hW0]
    have := heap_new (w.alloc (.cells #[.int .i64 st, .int .i64 pc, .slice a n c, .int .i64 ss, .int .i64 en, .int .i64 la] 100)) (.cells #[.int .i64 st', .int .i64 pc', .slice a' n' c', .int .i64 ss', .int .i64 en', .int .i64 la'] 100)
    rwa [World.size_alloc] at this
  have HA : Hid (Rd W0 a sk) := hr.keep HB0.out (Nat.le_refl _)
  have HA' : Hid (Rd W0 a' sk') := hr'.keep HB0.out (Nat.le_refl _)
  clear hr hr' hl hl' hR hF
  go_enter Try.func92, Try.ntmps92
  go_upto_region 1 with fail
  (try rw [hW0])
  clear hW0
  obtain ⟨f0, f1, f2, f3, f4, f5⟩ := cells_six HX0.out
  obtain ⟨g0, g1, g2, g3, g4, g5⟩ := cells_six HY0.out
  by_cases e0 : st = st'
  case neg =>
    have HN : Hid (R = false) := HF.out (fun h => e0 h.1)
    have q0 : (st == st') = false := by simpa using e0
    clear e0
    go_wp2
    go_ret
    rw [HN.out]
    exact ⟨rfl, HB0.out⟩
  have E0 : Hid (st = st') := e0
  have q0 : (st == st') = true := by simpa using e0
  clear e0
  by_cases e1 : pc = pc'
  case neg =>
    have HN : Hid (R = false) := HF.out (fun h => e1 h.2.1)
    have q1 : (pc == pc') = false := by simpa using e1
    clear e1
    go_wp2
    go_ret
    rw [HN.out]
    exact ⟨rfl, HB0.out⟩
  have E1 : Hid (pc = pc') := e1
  have q1 : (pc == pc') = true := by simpa using e1
  clear e1
  obtain ⟨R2, hR2⟩ := same_ex sk sk'
  have HR2 : Hid (R2 = true ↔ sk = sk') := hR2
  clear hR2
  go_wp2_with fail
  refine (sameI a a' sk sk' n n' c c' HL.out HL'.out hn hn' R2 HR2.out _ HA.out HA'.out).mono ?_
  rintro e w1 ⟨rfl, hb1⟩
  have HB1 : Hid (Below w.heap.size w w1) := bel_on (Nat.le_refl _) HB0.out hb1
  have HX1 : Hid (w1.heap[w.heap.size]? = some _) := row_on HX0.out hb1
  have HY1 : Hid (w1.heap[w.heap.size + 1]? = some _) := row_on HY0.out hb1
  clear f0 f1 f2 f3 f4 f5 g0 g1 g2 g3 g4 g5
  obtain ⟨f0, f1, f2, f3, f4, f5⟩ := cells_six HX1.out
  obtain ⟨g0, g1, g2, g3, g4, g5⟩ := cells_six HY1.out
  clear hb1 HX0 HY0 HA HA' HB0
  cases R2
  case false =>
    have HN : Hid (R = false) := HF.out (fun h => by have := HR2.out.2 h.2.2.1; cases this)
    go_wp2
    go_ret
    rw [HN.out]
    exact ⟨rfl, HB1.out⟩
  have E2 : Hid (sk = sk') := HR2.out.1 rfl
  by_cases e3 : ss = ss'
  case neg =>
    have HN : Hid (R = false) := HF.out (fun h => e3 h.2.2.2.1)
    have q3 : (ss == ss') = false := by simpa using e3
    clear e3
    go_wp2
    go_ret
    rw [HN.out]
    exact ⟨rfl, HB1.out⟩
  have E3 : Hid (ss = ss') := e3
  have q3 : (ss == ss') = true := by simpa using e3
  clear e3
  by_cases e4 : en = en'
  case neg =>
    have HN : Hid (R = false) := HF.out (fun h => e4 h.2.2.2.2.1)
    have q4 : (en == en') = false := by simpa using e4
    clear e4
    go_wp2
    go_ret
    rw [HN.out]
    exact ⟨rfl, HB1.out⟩
  have E4 : Hid (en = en') := e4
  have q4 : (en == en') = true := by simpa using e4
  clear e4
  by_cases e5 : la = la'
  case neg =>
    have HN : Hid (R = false) := HF.out (fun h => e5 h.2.2.2.2.2)
    have q5 : (la == la') = false := by simpa using e5
    clear e5
    go_wp2
    go_ret
    rw [HN.out]
    exact ⟨rfl, HB1.out⟩
  have HN : Hid (R = true) := HR.out.2 ⟨E0.out, E1.out, E2.out, E3.out, E4.out, e5⟩
  have q5 : (la == la') = true := by simpa using e5
  clear e5
  go_wp2
  go_ret
  rw [HN.out]
  exact ⟨rfl, HB1.out⟩
end Go.Proofs.Ytfdhcchakoldpaa
