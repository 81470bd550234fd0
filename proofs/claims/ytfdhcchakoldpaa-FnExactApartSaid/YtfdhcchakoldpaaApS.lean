/-
  Whether a part of one kernel is seen as that of another, of the specification.
-/
import Derived.Test.YtfdhcchakoldpaaApW
namespace Go.Proofs.Ytfdhcchakoldpaa.Ap
open Go.ChangeShapes Go.WideShapes Go.ChangeAt Go.RowKit Go.PlainAid
set_option linter.unusedVariables false
set_option linter.unusedSimpArgs false

theorem OwnK.onB {w w' : World} {lo : Nat} {k : KH} {K : KX} (h : OwnK w lo k K) (hb : Below w.heap.size w w') : OwnK w' lo k K := h.on hb
set_option maxRecDepth 100000 in
set_option maxHeartbeats 8000000 in
theorem apartS (k k' : KH) (K K' : KX) (p : Int) (hp : -9223372036854775808 ≤ p ∧ p ≤ 9223372036854775807) (R : Bool) (hR : R = true ↔ SameV K K' p) (lo lo' : Nat) (w : World) (h : OwnK w lo k K) (h' : OwnK w lo' k' K') (hs : SmK k K) (hs' : SmK k' K') :
    Calls Try.prog 12 #[KerV k K, KerV k' K', .int .i64 p] w fun e w' => e = .returned (.bool R) ∧ Below w.heap.size w w' := by
  obtain ⟨Q, cl, ol, hv⟩ := view_ex K p
  obtain ⟨Q', cl', ol', hv'⟩ := view_ex K' p
  obtain ⟨sm1, sm2, sm3⟩ := view_sm hv hs
  obtain ⟨sm1', sm2', sm3'⟩ := view_sm hv' hs'
  rw [sameV_iff hv hv'] at hR
  obtain ⟨cs, hcs, hsz⟩ := ker_row k K
  obtain ⟨cs', hcs', hsz'⟩ := ker_row k' K'
  have V0 := fun W hr => viewSX k K p Q cl ol hv hp lo W hr hs
  have V0' := fun W hr => viewSX k' K' p Q' cl' ol' hv' hp lo' W hr hs'
  rw [hcs] at V0 ⊢
  rw [hcs'] at V0' ⊢
  obtain ⟨st, pc, sk, ss, en, la⟩ := Q
  obtain ⟨st', pc', sk', ss', en', la'⟩ := Q'
  dsimp only at V0 V0' sm1 sm1'
  obtain ⟨n, hn⟩ : ∃ m, sk.length = m := ⟨_, rfl⟩
  obtain ⟨n2, hn2⟩ : ∃ m, cl.length = m := ⟨_, rfl⟩
  obtain ⟨n3, hn3⟩ : ∃ m, ol.length = m := ⟨_, rfl⟩
  obtain ⟨n', hn'⟩ : ∃ m, sk'.length = m := ⟨_, rfl⟩
  obtain ⟨n2', hn2'⟩ : ∃ m, cl'.length = m := ⟨_, rfl⟩
  obtain ⟨n3', hn3'⟩ : ∃ m, ol'.length = m := ⟨_, rfl⟩
  rw [hn, hn2, hn3] at V0
  rw [hn', hn2', hn3'] at V0'
  have V : Hid (∀ W, OwnK W lo k K → Calls Try.prog 37 #[.agg cs, .int .i64 p] W fun e w' => ∃ q1 c1 q2 c2 q3 c3, e = .returned (.tuple #[.agg #[.int .i64 st, .int .i64 pc, .slice q1 n c1, .int .i64 ss, .int .i64 en, .int .i64 la], .slice q2 n2 c2, .slice q3 n3 c3]) ∧ Rd w' q1 sk ∧ Rd w' q2 cl ∧ Rd w' q3 ol ∧ Below W.heap.size W w') := V0
  have V' : Hid (∀ W, OwnK W lo' k' K' → Calls Try.prog 37 #[.agg cs', .int .i64 p] W fun e w' => ∃ q1 c1 q2 c2 q3 c3, e = .returned (.tuple #[.agg #[.int .i64 st', .int .i64 pc', .slice q1 n' c1, .int .i64 ss', .int .i64 en', .int .i64 la'], .slice q2 n2' c2, .slice q3 n3' c3]) ∧ Rd w' q1 sk' ∧ Rd w' q2 cl' ∧ Rd w' q3 ol' ∧ Below W.heap.size W w') := V0'
  have HN : Hid ((sk.length = n ∧ cl.length = n2 ∧ ol.length = n3) ∧ (sk'.length = n' ∧ cl'.length = n2' ∧ ol'.length = n3') ∧ (n ≤ 1048576 ∧ n2 ≤ 1048576 ∧ n3 ≤ 1048576 ∧ n' ≤ 1048576 ∧ n2' ≤ 1048576 ∧ n3' ≤ 1048576)) := ⟨⟨hn, hn2, hn3⟩, ⟨hn', hn2', hn3'⟩, by omega⟩
  have HR : Hid (R = true ↔ ((st = st' ∧ pc = pc' ∧ sk = sk' ∧ ss = ss' ∧ en = en' ∧ la = la') ∧ cl = cl' ∧ ol = ol')) := hR
  have HF : Hid (¬ ((st = st' ∧ pc = pc' ∧ sk = sk' ∧ ss = ss' ∧ en = en' ∧ la = la') ∧ cl = cl' ∧ ol = ol') → R = false) := (fun h => by cases hq : R; rfl; exact absurd (HR.out.1 hq) h : ¬ ((st = st' ∧ pc = pc' ∧ sk = sk' ∧ ss = ss' ∧ en = en' ∧ la = la') ∧ cl = cl' ∧ ol = ol') → R = false)
  obtain ⟨W0, hW0⟩ : ∃ W0, ((w.alloc (.cells cs 38)).alloc (.cells cs' 38)) = W0 := ⟨_, rfl⟩
  have hb0 : Below w.heap.size w W0 := by rw [← hW0]; exact ((Below.refl _ _).alloc (Nat.le_refl _) _).alloc (by simp) _
  have HB0 : Hid (Below w.heap.size w W0) := hb0
  have KX0 : Hid (W0.heap[w.heap.size]? = some (.cells cs 38)) := by rw [← hW0]; exact (Below.heap_alloc _ _ _ (row_lt (heap_new w _))).trans (heap_new w _)
  have KY0 : Hid (W0.heap[w.heap.size + 1]? = some (.cells cs' 38)) := by
    rw [← hW0]
    have := heap_new (w.alloc (.cells cs 38)) (.cells cs' 38)
    rwa [World.size_alloc] at this
  have HK0 : Hid (OwnK W0 lo k K) := h.on hb0
  have HK0' : Hid (OwnK W0 lo' k' K') := h'.on hb0
  obtain ⟨R2, hR2⟩ := same_ex sk sk'
  have HR2 : Hid (R2 = true ↔ sk = sk') := hR2
  obtain ⟨R3, hR3⟩ := same_ex cl cl'
  have HR3 : Hid (R3 = true ↔ cl = cl') := hR3
  obtain ⟨R4, hR4⟩ := same_ex ol ol'
  have HR4 : Hid (R4 = true ↔ ol = ol') := hR4
  clear V0 V0' h h' hv hv' hs hs' hR hcs hcs' hn hn2 hn3 hn' hn2' hn3' sm1 sm2 sm3 sm1' sm2' sm3' hb0 hR2 hR3 hR4
  go_enter Try.func12, Try.ntmps12
  go_upto_region 1 with fail
  (try rw [hW0])
  clear hW0
  go_wp2_with (refine wpList_load_row rfl _ _ rfl w.heap.size rfl _ _ _ _ KX0.out Try.underlying38 rfl (by rw [hsz]; kernel_rfl) ?_)
  refine (V.out _ HK0.out).mono ?_
  rintro e w1 ⟨q1, c1, q2, c2, q3, c3, rfl, ra, rb, rc, hb1⟩
  obtain ⟨X, hX⟩ : ∃ X, w1.heap.size = X := ⟨_, rfl⟩
  obtain ⟨W1, hW1⟩ : ∃ W1, w1.alloc (.cells #[.int .i64 st, .int .i64 pc, .slice q1 n c1, .int .i64 ss, .int .i64 en, .int .i64 la] 100) = W1 := ⟨_, rfl⟩
  have hba : Below w1.heap.size w1 W1 := by rw [← hW1]; exact alM _ _
  have HB1 : Hid (Below w.heap.size w W1) := bel_on (Nat.le_refl _) (bel_on (Nat.le_refl _) HB0.out hb1) hba
  have KY1 : Hid (W1.heap[w.heap.size + 1]? = some (.cells cs' 38)) := row_on (row_on KY0.out hb1) hba
  have HK1 : Hid (OwnK W1 lo' k' K') := (HK0'.out.on hb1).on hba
  have HX1 : Hid (W1.heap[X]? = some (.cells #[.int .i64 st, .int .i64 pc, .slice q1 n c1, .int .i64 ss, .int .i64 en, .int .i64 la] 100)) := by rw [← hW1, ← hX]; exact heap_new w1 _
  have RA : Hid (Rd W1 q1 sk) := ra.keep hba (Nat.le_refl _)
  have RB : Hid (Rd W1 q2 cl) := rb.keep hba (Nat.le_refl _)
  have RC : Hid (Rd W1 q3 ol) := rc.keep hba (Nat.le_refl _)
  clear ra rb rc hb1 hba HK0 HK0' KX0 KY0 HB0
  go_upto_region 2 with fail
  (try rw [hW1])
  (try rw [hX])
  clear hW1 hX
  go_wp2_with (refine wpList_load_row rfl _ _ rfl (w.heap.size + 1) rfl _ _ _ _ KY1.out Try.underlying38 rfl (by rw [hsz']; kernel_rfl) ?_)
  refine (V'.out _ HK1.out).mono ?_
  rintro e w2 ⟨q4, c4, q5, c5, q6, c6, rfl, ra, rb, rc, hb2⟩
  obtain ⟨Y, hY⟩ : ∃ X, w2.heap.size = X := ⟨_, rfl⟩
  obtain ⟨W2, hW2⟩ : ∃ W1, w2.alloc (.cells #[.int .i64 st', .int .i64 pc', .slice q4 n' c4, .int .i64 ss', .int .i64 en', .int .i64 la'] 100) = W1 := ⟨_, rfl⟩
  have hba : Below w2.heap.size w2 W2 := by rw [← hW2]; exact alM _ _
  have HB2 : Hid (Below w.heap.size w W2) := bel_on (Nat.le_refl _) (bel_on (Nat.le_refl _) HB1.out hb2) hba
  have HX2 : Hid (W2.heap[X]? = some (.cells #[.int .i64 st, .int .i64 pc, .slice q1 n c1, .int .i64 ss, .int .i64 en, .int .i64 la] 100)) := row_on (row_on HX1.out hb2) hba
  have HY2 : Hid (W2.heap[Y]? = some (.cells #[.int .i64 st', .int .i64 pc', .slice q4 n' c4, .int .i64 ss', .int .i64 en', .int .i64 la'] 100)) := by rw [← hW2, ← hY]; exact heap_new w2 _
  have RA : Hid (Rd W2 q1 sk) := (RA.out.keep hb2 (Nat.le_refl _)).keep hba (Nat.le_refl _)
  have RB : Hid (Rd W2 q2 cl) := (RB.out.keep hb2 (Nat.le_refl _)).keep hba (Nat.le_refl _)
  have RC : Hid (Rd W2 q3 ol) := (RC.out.keep hb2 (Nat.le_refl _)).keep hba (Nat.le_refl _)
  have RD : Hid (Rd W2 q4 sk') := ra.keep hba (Nat.le_refl _)
  have RE : Hid (Rd W2 q5 cl') := rb.keep hba (Nat.le_refl _)
  have RF : Hid (Rd W2 q6 ol') := rc.keep hba (Nat.le_refl _)
  clear ra rb rc hb2 hba HK1 KY1 HB1 HX1
  go_upto_region 3 with fail
  (try rw [hW2])
  (try rw [hY])
  clear hW2 hY
  obtain ⟨f0, f1, f2, f3, f4, f5⟩ := cells_six HX2.out
  obtain ⟨g0, g1, g2, g3, g4, g5⟩ := cells_six HY2.out
  by_cases e0 : st = st'
  case neg =>
    have HZ : Hid (R = false) := HF.out (fun h => e0 h.1.1)
    have p0 : (st == st') = false := by simpa using e0
    clear e0
    go_wp2
    go_ret
    rw [HZ.out]
    exact ⟨rfl, HB2.out⟩
  have E0 : Hid (st = st') := e0
  have p0 : (st == st') = true := by simpa using e0
  clear e0
  by_cases e1 : pc = pc'
  case neg =>
    have HZ : Hid (R = false) := HF.out (fun h => e1 h.1.2.1)
    have p1 : (pc == pc') = false := by simpa using e1
    clear e1
    go_wp2
    go_ret
    rw [HZ.out]
    exact ⟨rfl, HB2.out⟩
  have E1 : Hid (pc = pc') := e1
  have p1 : (pc == pc') = true := by simpa using e1
  clear e1
  go_wp2_with fail
  refine (sameS q1 q4 sk sk' n n' c1 c4 HN.out.1.1 HN.out.2.1.1 HN.out.2.2.1 HN.out.2.2.2.2.2.1 R2 HR2.out _ RA.out RD.out).mono ?_
  rintro e w3 ⟨rfl, hb3⟩
  have HB3 : Hid (Below w.heap.size w w3) := bel_on (Nat.le_refl _) HB2.out hb3
  have HX3 : Hid (w3.heap[X]? = some (.cells #[.int .i64 st, .int .i64 pc, .slice q1 n c1, .int .i64 ss, .int .i64 en, .int .i64 la] 100)) := row_on HX2.out hb3
  have HY3 : Hid (w3.heap[Y]? = some (.cells #[.int .i64 st', .int .i64 pc', .slice q4 n' c4, .int .i64 ss', .int .i64 en', .int .i64 la'] 100)) := row_on HY2.out hb3
  have RB : Hid (Rd w3 q2 cl) := RB.out.keep hb3 (Nat.le_refl _)
  have RC : Hid (Rd w3 q3 ol) := RC.out.keep hb3 (Nat.le_refl _)
  have RE : Hid (Rd w3 q5 cl') := RE.out.keep hb3 (Nat.le_refl _)
  have RF : Hid (Rd w3 q6 ol') := RF.out.keep hb3 (Nat.le_refl _)
  clear f0 f1 f2 f3 f4 f5 g0 g1 g2 g3 g4 g5
  obtain ⟨f0, f1, f2, f3, f4, f5⟩ := cells_six HX3.out
  obtain ⟨g0, g1, g2, g3, g4, g5⟩ := cells_six HY3.out
  clear hb3 HX2 HY2 HB2 RA RD
  cases R2
  case false =>
    have HZ : Hid (R = false) := HF.out (fun h => by have := HR2.out.2 h.1.2.2.1; cases this)
    go_wp2
    go_ret
    rw [HZ.out]
    exact ⟨rfl, HB3.out⟩
  have E2 : Hid (sk = sk') := HR2.out.1 rfl
  by_cases e3 : ss = ss'
  case neg =>
    have HZ : Hid (R = false) := HF.out (fun h => e3 h.1.2.2.2.1)
    have p3 : (ss == ss') = false := by simpa using e3
    clear e3
    go_wp2
    go_ret
    rw [HZ.out]
    exact ⟨rfl, HB3.out⟩
  have E3 : Hid (ss = ss') := e3
  have p3 : (ss == ss') = true := by simpa using e3
  clear e3
  by_cases e4 : en = en'
  case neg =>
    have HZ : Hid (R = false) := HF.out (fun h => e4 h.1.2.2.2.2.1)
    have p4 : (en == en') = false := by simpa using e4
    clear e4
    go_wp2
    go_ret
    rw [HZ.out]
    exact ⟨rfl, HB3.out⟩
  have E4 : Hid (en = en') := e4
  have p4 : (en == en') = true := by simpa using e4
  clear e4
  by_cases e5 : la = la'
  case neg =>
    have HZ : Hid (R = false) := HF.out (fun h => e5 h.1.2.2.2.2.2)
    have p5 : (la == la') = false := by simpa using e5
    clear e5
    go_wp2
    go_ret
    rw [HZ.out]
    exact ⟨rfl, HB3.out⟩
  have E5 : Hid (la = la') := e5
  have p5 : (la == la') = true := by simpa using e5
  clear e5
  go_wp2_with fail
  refine (sameS q2 q5 cl cl' n2 n2' c2 c5 HN.out.1.2.1 HN.out.2.1.2.1 HN.out.2.2.2.1 HN.out.2.2.2.2.2.2.1 R3 HR3.out _ RB.out RE.out).mono ?_
  rintro e w4 ⟨rfl, hb4⟩
  have HB4 : Hid (Below w.heap.size w w4) := bel_on (Nat.le_refl _) HB3.out hb4
  have HX4 : Hid (w4.heap[X]? = some (.cells #[.int .i64 st, .int .i64 pc, .slice q1 n c1, .int .i64 ss, .int .i64 en, .int .i64 la] 100)) := row_on HX3.out hb4
  have HY4 : Hid (w4.heap[Y]? = some (.cells #[.int .i64 st', .int .i64 pc', .slice q4 n' c4, .int .i64 ss', .int .i64 en', .int .i64 la'] 100)) := row_on HY3.out hb4
  have RC : Hid (Rd w4 q3 ol) := RC.out.keep hb4 (Nat.le_refl _)
  have RF : Hid (Rd w4 q6 ol') := RF.out.keep hb4 (Nat.le_refl _)
  clear f0 f1 f2 f3 f4 f5 g0 g1 g2 g3 g4 g5
  obtain ⟨f0, f1, f2, f3, f4, f5⟩ := cells_six HX4.out
  obtain ⟨g0, g1, g2, g3, g4, g5⟩ := cells_six HY4.out
  clear hb4 HX3 HY3 HB3 RB RE
  cases R3
  case false =>
    have HZ : Hid (R = false) := HF.out (fun h => by have := HR3.out.2 h.2.1; cases this)
    go_wp2
    go_ret
    rw [HZ.out]
    exact ⟨rfl, HB4.out⟩
  have E6 : Hid (cl = cl') := HR3.out.1 rfl
  go_wp2_with fail
  refine (sameS q3 q6 ol ol' n3 n3' c3 c6 HN.out.1.2.2 HN.out.2.1.2.2 HN.out.2.2.2.2.1 HN.out.2.2.2.2.2.2.2 R4 HR4.out _ RC.out RF.out).mono ?_
  rintro e w5 ⟨rfl, hb5⟩
  have HB5 : Hid (Below w.heap.size w w5) := bel_on (Nat.le_refl _) HB4.out hb5
  have HZ : Hid (R = R4) := (show R = R4 by
    cases hq : R4
    · exact HF.out (fun h => by have := HR4.out.2 h.2.2; rw [hq] at this; cases this)
    · exact HR.out.2 ⟨⟨E0.out, E1.out, E2.out, E3.out, E4.out, E5.out⟩, E6.out, HR4.out.1 hq⟩)
  clear f0 f1 f2 f3 f4 f5 g0 g1 g2 g3 g4 g5
  clear hb5
  go_wp2
  go_ret
  rw [HZ.out]
  exact ⟨rfl, HB5.out⟩
end Go.Proofs.Ytfdhcchakoldpaa.Ap
