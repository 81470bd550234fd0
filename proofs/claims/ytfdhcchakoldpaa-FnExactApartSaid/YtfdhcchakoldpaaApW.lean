/-
  Whether a part of one kernel is seen as that of another, of the program.
-/
import Derived.Test.YtfdhcchakoldpaaApV
namespace Go.Proofs.Ytfdhcchakoldpaa.Ap
open Go.ChangeShapes Go.WideShapes Go.ChangeAt Go.RowKit Go.PlainAid
set_option linter.unusedVariables false
set_option linter.unusedSimpArgs false

/-- a whole struct that is loaded, as an operation by itself -/
theorem exec_load_row {o : Oper} {a : Act} {w : World} (ty : TypeId) (x : Operand) (ho : o.op = .load ty x)
    (g : Nat) (hx : a.eval x = .pointer (some ⟨g, 0, none⟩)) (t : TypeId) (cs : Array Value) (fr : Nat × Nat) (hg : w.heap[g]? = some (.cells cs t fr))
    (hu : (match Try.prog.underlying ty with | some (.struct _) | some (.array _ _) => true | _ => false) = true) (hi : (Try.prog.info? ty).map (·.size) = some cs.size) :
    (execOp a.eval o).run Try.prog w = .ok (.value (.agg cs)) w := by
  cases e : Try.prog.underlying ty with
  | none => rw [e] at hu; cases hu
  | some d =>
    rw [e] at hu
    have hr : (loadVar ty ⟨g, 0, none⟩).run Try.prog w = .ok (.agg cs) w := run_loadVar_row w g t ty cs fr d hg e (by cases d <;> first | rfl | (cases hu)) hi
    unfold execOp
    simp only [ho, hx, Instr.loadAt, Instr.sureAddr, Sem.run_bind, Sem.run_pure, Result.andThen_ok, hr]

theorem bool_ex (p : Prop) : ∃ R : Bool, R = true ↔ p := by
  by_cases h : p
  · exact ⟨true, by simp [h]⟩
  · exact ⟨false, by simp [h]⟩
theorem cells_eight {w : World} {k : Nat} {t : TypeId} {x0 x1 x2 x3 x4 x5 x6 x7 : Value} (h : w.heap[k]? = some (.cells #[x0, x1, x2, x3, x4, x5, x6, x7] t)) : w.cell? ⟨k, 0, none⟩ = some x0 ∧ w.cell? ⟨k, 1, none⟩ = some x1 ∧ w.cell? ⟨k, 2, none⟩ = some x2 ∧ w.cell? ⟨k, 3, none⟩ = some x3 ∧ w.cell? ⟨k, 4, none⟩ = some x4 ∧ w.cell? ⟨k, 5, none⟩ = some x5 ∧ w.cell? ⟨k, 6, none⟩ = some x6 ∧ w.cell? ⟨k, 7, none⟩ = some x7 := by
  refine ⟨?_, ?_, ?_, ?_, ?_, ?_, ?_, ?_⟩ <;> simp [World.cell?, h]
set_option maxRecDepth 100000 in
set_option maxHeartbeats 4000000 in
theorem isAsI (st pc ss en la st' pc' ss' en' la' : Int) (sk sk' cl cl' ol ol' : List Int) (a b d a' b' d' : Option Addr) (n n2 n3 n' n2' n3' c c2 c3 c' c2' c3' : Nat)
    (hl : sk.length = n) (hl2 : cl.length = n2) (hl3 : ol.length = n3) (hl' : sk'.length = n') (hl2' : cl'.length = n2') (hl3' : ol'.length = n3') (hn : n ≤ 1048576 ∧ n2 ≤ 1048576 ∧ n3 ≤ 1048576 ∧ n' ≤ 1048576 ∧ n2' ≤ 1048576 ∧ n3' ≤ 1048576) (R : Bool)
    (hR : R = true ↔ (SameP ⟨st, pc, sk, ss, en, la⟩ ⟨st', pc', sk', ss', en', la'⟩ ∧ cl = cl' ∧ ol = ol')) (w : World) (hr : Rd w a sk ∧ Rd w b cl ∧ Rd w d ol ∧ Rd w a' sk' ∧ Rd w b' cl' ∧ Rd w d' ol') :
    Calls Try.prog 36 #[.agg #[.int .i64 st, .int .i64 pc, .slice a n c, .int .i64 ss, .int .i64 en, .int .i64 la, .slice b n2 c2, .slice d n3 c3], .agg #[.int .i64 st', .int .i64 pc', .slice a' n' c', .int .i64 ss', .int .i64 en', .int .i64 la', .slice b' n2' c2', .slice d' n3' c3']] w fun e w' => e = .returned (.bool R) ∧ Below w.heap.size w w' := by
  have HR : Hid (R = true ↔ (SameP ⟨st, pc, sk, ss, en, la⟩ ⟨st', pc', sk', ss', en', la'⟩ ∧ cl = cl' ∧ ol = ol')) := hR
  have HF : Hid (¬ (SameP ⟨st, pc, sk, ss, en, la⟩ ⟨st', pc', sk', ss', en', la'⟩ ∧ cl = cl' ∧ ol = ol') → R = false) := (fun h => by cases hq : R; rfl; exact absurd (HR.out.1 hq) h : ¬ (SameP ⟨st, pc, sk, ss, en, la⟩ ⟨st', pc', sk', ss', en', la'⟩ ∧ cl = cl' ∧ ol = ol') → R = false)
  have HL : Hid (sk.length = n ∧ cl.length = n2 ∧ ol.length = n3) := ⟨hl, hl2, hl3⟩
  have HL' : Hid (sk'.length = n' ∧ cl'.length = n2' ∧ ol'.length = n3') := ⟨hl', hl2', hl3'⟩
  obtain ⟨n1, n2m, n3m, n1', n2m', n3m'⟩ := hn
  obtain ⟨W0, hW0⟩ : ∃ W0, ((w.alloc (.cells #[.int .i64 st, .int .i64 pc, .slice a n c, .int .i64 ss, .int .i64 en, .int .i64 la, .slice b n2 c2, .slice d n3 c3] 110)).alloc (.cells #[.int .i64 st', .int .i64 pc', .slice a' n' c', .int .i64 ss', .int .i64 en', .int .i64 la', .slice b' n2' c2', .slice d' n3' c3'] 110)) = W0 := ⟨_, rfl⟩
  have HB0 : Hid (Below w.heap.size w W0) := by rw [← hW0]; exact ((Below.refl _ _).alloc (Nat.le_refl _) _).alloc (by simp) _
  have HX0 : Hid (W0.heap[w.heap.size]? = some (.cells #[.int .i64 st, .int .i64 pc, .slice a n c, .int .i64 ss, .int .i64 en, .int .i64 la, .slice b n2 c2, .slice d n3 c3] 110)) := by rw [← hW0]; exact (Below.heap_alloc _ _ _ (row_lt (heap_new w _))).trans (heap_new w _)
  have HY0 : Hid (W0.heap[w.heap.size + 1]? = some (.cells #[.int .i64 st', .int .i64 pc', .slice a' n' c', .int .i64 ss', .int .i64 en', .int .i64 la', .slice b' n2' c2', .slice d' n3' c3'] 110)) := by
    rw [← hW0]
    have := heap_new (w.alloc (.cells #[.int .i64 st, .int .i64 pc, .slice a n c, .int .i64 ss, .int .i64 en, .int .i64 la, .slice b n2 c2, .slice d n3 c3] 110)) (.cells #[.int .i64 st', .int .i64 pc', .slice a' n' c', .int .i64 ss', .int .i64 en', .int .i64 la', .slice b' n2' c2', .slice d' n3' c3'] 110)
    rwa [World.size_alloc] at this
  obtain ⟨r1, r2, r3, s1, s2, s3⟩ := hr
  have HA1 : Hid (Rd W0 a sk) := r1.keep HB0.out (Nat.le_refl _)
  have HA2 : Hid (Rd W0 b cl) := r2.keep HB0.out (Nat.le_refl _)
  have HA3 : Hid (Rd W0 d ol) := r3.keep HB0.out (Nat.le_refl _)
  have HA4 : Hid (Rd W0 a' sk') := s1.keep HB0.out (Nat.le_refl _)
  have HA5 : Hid (Rd W0 b' cl') := s2.keep HB0.out (Nat.le_refl _)
  have HA6 : Hid (Rd W0 d' ol') := s3.keep HB0.out (Nat.le_refl _)
  obtain ⟨R1, hR1⟩ := bool_ex (SameP ⟨st, pc, sk, ss, en, la⟩ ⟨st', pc', sk', ss', en', la'⟩)
  have HR1 : Hid (R1 = true ↔ SameP ⟨st, pc, sk, ss, en, la⟩ ⟨st', pc', sk', ss', en', la'⟩) := hR1
  obtain ⟨R2, hR2⟩ := same_ex cl cl'
  have HR2 : Hid (R2 = true ↔ cl = cl') := hR2
  obtain ⟨R3, hR3⟩ := same_ex ol ol'
  have HR3 : Hid (R3 = true ↔ ol = ol') := hR3
  clear r1 r2 r3 s1 s2 s3 hl hl2 hl3 hl' hl2' hl3' hR hR1 hR2 hR3
  go_enter Try.func36, Try.ntmps36
  go_upto_region 1 with fail
  (try rw [hW0])
  clear hW0
  obtain ⟨f0, f1, f2, f3, f4, f5, f6, f7⟩ := cells_eight HX0.out
  obtain ⟨g0, g1, g2, g3, g4, g5, g6, g7⟩ := cells_eight HY0.out
  go_wp2_with fail
  refine (samePI st pc ss en la st' pc' ss' en' la' sk sk' a a' n n' c c' HL.out.1 HL'.out.1 n1 n1' R1 HR1.out _ HA1.out HA4.out).mono ?_
  rintro e w1 ⟨rfl, hb1⟩
  have HB1 : Hid (Below w.heap.size w w1) := bel_on (Nat.le_refl _) HB0.out hb1
  have HX1 : Hid (w1.heap[w.heap.size]? = some _) := row_on HX0.out hb1
  have HY1 : Hid (w1.heap[w.heap.size + 1]? = some _) := row_on HY0.out hb1
  have HA2 : Hid (Rd w1 b cl) := HA2.out.keep hb1 (Nat.le_refl _)
  have HA3 : Hid (Rd w1 d ol) := HA3.out.keep hb1 (Nat.le_refl _)
  have HA5 : Hid (Rd w1 b' cl') := HA5.out.keep hb1 (Nat.le_refl _)
  have HA6 : Hid (Rd w1 d' ol') := HA6.out.keep hb1 (Nat.le_refl _)
  clear f0 f1 f2 f3 f4 f5 f6 f7 g0 g1 g2 g3 g4 g5 g6 g7
  obtain ⟨f0, f1, f2, f3, f4, f5, f6, f7⟩ := cells_eight HX1.out
  obtain ⟨g0, g1, g2, g3, g4, g5, g6, g7⟩ := cells_eight HY1.out
  clear hb1 HX0 HY0 HA1 HA4 HB0
  cases R1
  case false =>
    have HN : Hid (R = false) := HF.out (fun h => by have := HR1.out.2 h.1; cases this)
    go_wp2
    go_ret
    rw [HN.out]
    exact ⟨rfl, HB1.out⟩
  have E1 : Hid (SameP ⟨st, pc, sk, ss, en, la⟩ ⟨st', pc', sk', ss', en', la'⟩) := HR1.out.1 rfl
  go_wp2_with fail
  refine (sameI b b' cl cl' n2 n2' c2 c2' HL.out.2.1 HL'.out.2.1 n2m n2m' R2 HR2.out _ HA2.out HA5.out).mono ?_
  rintro e w2 ⟨rfl, hb2⟩
  have HB2 : Hid (Below w.heap.size w w2) := bel_on (Nat.le_refl _) HB1.out hb2
  have HX2 : Hid (w2.heap[w.heap.size]? = some _) := row_on HX1.out hb2
  have HY2 : Hid (w2.heap[w.heap.size + 1]? = some _) := row_on HY1.out hb2
  have HA3 : Hid (Rd w2 d ol) := HA3.out.keep hb2 (Nat.le_refl _)
  have HA6 : Hid (Rd w2 d' ol') := HA6.out.keep hb2 (Nat.le_refl _)
  clear f0 f1 f2 f3 f4 f5 f6 f7 g0 g1 g2 g3 g4 g5 g6 g7
  obtain ⟨f0, f1, f2, f3, f4, f5, f6, f7⟩ := cells_eight HX2.out
  obtain ⟨g0, g1, g2, g3, g4, g5, g6, g7⟩ := cells_eight HY2.out
  clear hb2 HX1 HY1 HB1
  cases R2
  case false =>
    have HN : Hid (R = false) := HF.out (fun h => by have := HR2.out.2 h.2.1; cases this)
    go_wp2
    go_ret
    rw [HN.out]
    exact ⟨rfl, HB2.out⟩
  have E2 : Hid (cl = cl') := HR2.out.1 rfl
  go_wp2_with fail
  refine (sameI d d' ol ol' n3 n3' c3 c3' HL.out.2.2 HL'.out.2.2 n3m n3m' R3 HR3.out _ HA3.out HA6.out).mono ?_
  rintro e w3 ⟨rfl, hb3⟩
  have HB3 : Hid (Below w.heap.size w w3) := bel_on (Nat.le_refl _) HB2.out hb3
  have HN : Hid (R = R3) := (show R = R3 by
    cases hq : R3
    · exact HF.out (fun h => by have := HR3.out.2 h.2.2; rw [hq] at this; cases this)
    · exact HR.out.2 ⟨E1.out, E2.out, HR3.out.1 hq⟩)
  clear f0 f1 f2 f3 f4 f5 f6 f7 g0 g1 g2 g3 g4 g5 g6 g7 hb3
  go_wp2
  go_ret
  rw [HN.out]
  exact ⟨rfl, HB3.out⟩
/-- the two kernels are seen alike -/
def SameV (K K' : KX) (p : Int) : Prop := ∀ Q cl ol Q' cl' ol', ViewIs K p Q cl ol → ViewIs K' p Q' cl' ol' → SameP Q Q' ∧ cl = cl' ∧ ol = ol'
theorem view_one {K : KX} {p : Int} {Q Q' : PX} {cl cl' ol ol' : List Int} (h : ViewIs K p Q cl ol) (h' : ViewIs K p Q' cl' ol') : Q = Q' ∧ cl = cl' ∧ ol = ol' := by
  rcases h with ⟨h0, h1, h2, h3⟩ | ⟨j, jP, jR, jO, e0, h0, h1, h2, h3⟩
  · rcases h' with ⟨g0, g1, g2, g3⟩ | ⟨j', jP', jR', jO', e0', g0, g1, g2, g3⟩
    · exact ⟨h1.trans g1.symm, h2.trans g2.symm, h3.trans g3.symm⟩
    · exact absurd g0 h0
  · rcases h' with ⟨g0, g1, g2, g3⟩ | ⟨j', jP', jR', jO', e0', g0, g1, g2, g3⟩
    · exact absurd h0 g0
    · have e : j = j' := by omega
      subst e
      exact ⟨h1.trans g1.symm, h2.trans g2.symm, h3.trans g3.symm⟩
theorem sameV_iff {K K' : KX} {p : Int} {Q Q' : PX} {cl cl' ol ol' : List Int} (h : ViewIs K p Q cl ol) (h' : ViewIs K' p Q' cl' ol') : SameV K K' p ↔ SameP Q Q' ∧ cl = cl' ∧ ol = ol' :=
  ⟨fun s => s _ _ _ _ _ _ h h', fun s Q1 c1 o1 Q2 c2 o2 g g' => by
    obtain ⟨rfl, rfl, rfl⟩ := view_one h g
    obtain ⟨rfl, rfl, rfl⟩ := view_one h' g'
    exact s⟩
def SApI (w : World) (kx kx' : Nat) (cs cs' : Array Value) (k k' : KH) (K K' : KX) (W : World) : Prop := W.heap[kx]? = some (.cells cs 38) ∧ W.heap[kx']? = some (.cells cs' 38) ∧ RdK W k K ∧ RdK W k' K' ∧ Below w.heap.size w W
set_option maxRecDepth 100000 in
set_option maxHeartbeats 8000000 in
theorem apartI (k k' : KH) (K K' : KX) (p : Int) (R : Bool) (hR : R = true ↔ SameV K K' p) (w : World) (h : RdK w k K) (h' : RdK w k' K') (hs : SmK k K) (hs' : SmK k' K') :
    Calls Try.prog 11 #[KerV k K, KerV k' K', .int .i64 p] w fun e w' => e = .returned (.bool R) ∧ Below w.heap.size w w' := by
  obtain ⟨Q, cl, ol, hv⟩ := view_ex K p
  obtain ⟨Q', cl', ol', hv'⟩ := view_ex K' p
  obtain ⟨sm1, sm2, sm3⟩ := view_sm hv hs
  obtain ⟨sm1', sm2', sm3'⟩ := view_sm hv' hs'
  rw [sameV_iff hv hv'] at hR
  obtain ⟨cs, hcs, hsz⟩ := ker_row k K
  obtain ⟨cs', hcs', hsz'⟩ := ker_row k' K'
  have V0 := fun W hr => viewOfI k K p Q cl ol hv W hr hs
  have V0' := fun W hr => viewOfI k' K' p Q' cl' ol' hv' W hr hs'
  rw [hcs] at V0 ⊢
  rw [hcs'] at V0' ⊢
  obtain ⟨st, pc, sk, ss, en, la⟩ := Q
  obtain ⟨st', pc', sk', ss', en', la'⟩ := Q'
  dsimp only at V0 V0' sm1 sm1'
  obtain ⟨n, hn⟩ : ∃ m, sk.length = m := ⟨_, rfl⟩
  obtain ⟨n2, hn2⟩ : ∃ m, cl.length = m := ⟨_, rfl⟩
  obtain ⟨n3, hn3⟩ : ∃ m, ol.length = m := ⟨_, rfl⟩
  obtain ⟨n', hn'⟩ : ∃ m, sk'.length = m := ⟨_, rfl⟩
  obtain ⟨n2', hn2'⟩ : ∃ m, cl'.length = m := ⟨_, rfl⟩
  obtain ⟨n3', hn3'⟩ : ∃ m, ol'.length = m := ⟨_, rfl⟩
  rw [hn, hn2, hn3] at V0
  rw [hn', hn2', hn3'] at V0'
  have V : Hid (∀ W, RdK W k K → Calls Try.prog 35 #[.agg cs, .int .i64 p] W fun e w' => ∃ q1 q2 q3, e = .returned (.agg #[.int .i64 st, .int .i64 pc, .slice q1 n n, .int .i64 ss, .int .i64 en, .int .i64 la, .slice q2 n2 n2, .slice q3 n3 n3]) ∧ Rd w' q1 sk ∧ Rd w' q2 cl ∧ Rd w' q3 ol ∧ Below W.heap.size W w') := V0
  have V' : Hid (∀ W, RdK W k' K' → Calls Try.prog 35 #[.agg cs', .int .i64 p] W fun e w' => ∃ q1 q2 q3, e = .returned (.agg #[.int .i64 st', .int .i64 pc', .slice q1 n' n', .int .i64 ss', .int .i64 en', .int .i64 la', .slice q2 n2' n2', .slice q3 n3' n3']) ∧ Rd w' q1 sk' ∧ Rd w' q2 cl' ∧ Rd w' q3 ol' ∧ Below W.heap.size W w') := V0'
  have HN : Hid ((sk.length = n ∧ cl.length = n2 ∧ ol.length = n3) ∧ (sk'.length = n' ∧ cl'.length = n2' ∧ ol'.length = n3') ∧ (n ≤ 1048576 ∧ n2 ≤ 1048576 ∧ n3 ≤ 1048576 ∧ n' ≤ 1048576 ∧ n2' ≤ 1048576 ∧ n3' ≤ 1048576)) := ⟨⟨hn, hn2, hn3⟩, ⟨hn', hn2', hn3'⟩, by omega⟩
  have HR : Hid (R = true ↔ (SameP ⟨st, pc, sk, ss, en, la⟩ ⟨st', pc', sk', ss', en', la'⟩ ∧ cl = cl' ∧ ol = ol')) := hR
  obtain ⟨W0, hW0⟩ : ∃ W0, ((w.alloc (.cells cs 38)).alloc (.cells cs' 38)) = W0 := ⟨_, rfl⟩
  have HB0 : Hid (Below w.heap.size w W0) := by rw [← hW0]; exact ((Below.refl _ _).alloc (Nat.le_refl _) _).alloc (by simp) _
  have HX0 : Hid (W0.heap[w.heap.size]? = some (.cells cs 38)) := by rw [← hW0]; exact (Below.heap_alloc _ _ _ (row_lt (heap_new w _))).trans (heap_new w _)
  have HY0 : Hid (W0.heap[w.heap.size + 1]? = some (.cells cs' 38)) := by
    rw [← hW0]
    have := heap_new (w.alloc (.cells cs 38)) (.cells cs' 38)
    rwa [World.size_alloc] at this
  have HK0 : Hid (RdK W0 k K) := h.keep HB0.out (Nat.le_refl _)
  have HK0' : Hid (RdK W0 k' K') := h'.keep HB0.out (Nat.le_refl _)
  clear V0 V0' h h' hv hv' hs hs' hR hcs hcs' hn hn2 hn3 hn' hn2' hn3' sm1 sm2 sm3 sm1' sm2' sm3'
  go_enter Try.func11, Try.ntmps11
  go_upto_region 1 with fail
  (try rw [hW0])
  clear hW0
  have HK : SApI w w.heap.size (w.heap.size + 1) cs cs' k k' K K' W0.drew := ⟨HX0.out, HY0.out, HK0.out.on ((Below.refl _ _).drew), HK0'.out.on ((Below.refl _ _).drew), HB0.out.drew⟩
  refine wp_region_held_drew (S := fun w' => SApI w w.heap.size (w.heap.size + 1) cs cs' k k' K K' w') (by kernel_rfl) HK (fun hHeld => ?_)
  clear HX0 HY0 HK0 HK0' HB0 HK
  refine wpAnyH_take (i := 0) (v := .agg cs) rfl (by kernel_rfl) (by kernel_rfl) (by kernel_rfl) (fun _ _ _ h => h) (Or.inl ⟨by rfl, fun w_ hSw => exec_load_row _ _ rfl w.heap.size rfl _ _ _ hSw.1 (by kernel_rfl) (by rw [hsz]; kernel_rfl)⟩) (by assumption) ?_
  try simp only [Act.put, List.setIfInBounds_toArray, List.set_cons_zero, List.set_cons_succ, List.getElem_toArray, List.getElem_cons_zero, List.getElem_cons_succ]
  refine wpAnyH_take (i := 1) (v := ?_) rfl (by kernel_rfl) (by kernel_rfl) (by kernel_rfl) (fun _ _ _ h => h) (Or.inl ⟨by rfl, ?_⟩) (by assumption) ?_
  rotate_left
  · intro w_ hSw; (try dsimp only at hSw); clear hSw; (try clear hHeld); go_simp <;> with_reducible rfl
  try simp only [Act.put, List.setIfInBounds_toArray, List.set_cons_zero, List.set_cons_succ, List.getElem_toArray, List.getElem_cons_zero, List.getElem_cons_succ]
  refine wpAnyH_take (i := 3) (v := .agg cs') rfl (by kernel_rfl) (by kernel_rfl) (by kernel_rfl) (fun _ _ _ h => h) (Or.inl ⟨by rfl, fun w_ hSw => exec_load_row _ _ rfl (w.heap.size + 1) rfl _ _ _ hSw.2.1 (by kernel_rfl) (by rw [hsz']; kernel_rfl)⟩) (by assumption) ?_
  try simp only [Act.put, List.setIfInBounds_toArray, List.set_cons_zero, List.set_cons_succ, List.getElem_toArray, List.getElem_cons_zero, List.getElem_cons_succ]
  refine wpAnyH_take (i := 4) (v := ?_) rfl (by kernel_rfl) (by kernel_rfl) (by kernel_rfl) (fun _ _ _ h => h) (Or.inl ⟨by rfl, ?_⟩) (by assumption) ?_
  rotate_left
  · intro w_ hSw; (try dsimp only at hSw); clear hSw; (try clear hHeld); go_simp <;> with_reducible rfl
  try simp only [Act.put, List.setIfInBounds_toArray, List.set_cons_zero, List.set_cons_succ, List.getElem_toArray, List.getElem_cons_zero, List.getElem_cons_succ]
  have hS1 : SApI w w.heap.size (w.heap.size + 1) cs cs' k k' K K' W0.drew := by assumption
  refine wpAnyH_ready (rs := [2]) (by kernel_rfl) (by simp) ?_
  refine AllReadyH.cons rfl (fun J hJ => ?_) AllReadyH.nil
  go_simp
  refine (V.out _ hS1.2.2.1).mono ?_
  rintro e w1 ⟨q1, q2, q3, rfl, ra, rb, rc, hb1⟩
  have hS2 : SApI w w.heap.size (w.heap.size + 1) cs cs' k k' K K' w1 := ⟨row_on hS1.1 hb1, row_on hS1.2.1 hb1, hS1.2.2.1.on hb1, hS1.2.2.2.1.on hb1, bel_on (Nat.le_refl _) hS1.2.2.2.2 hb1⟩
  have RA : Hid (Rd w1 q1 sk) := ra
  have RB : Hid (Rd w1 q2 cl) := rb
  have RC : Hid (Rd w1 q3 ol) := rc
  clear ra rb rc hb1 hS1
  (try go_wp2_with fail)
  refine hJ.out _ _ hS2 (fun hHeld2 => ?_)
  clear hJ J hHeld
  try simp only [Act.put, List.setIfInBounds_toArray, List.set_cons_zero, List.set_cons_succ, List.getElem_toArray, List.getElem_cons_zero, List.getElem_cons_succ]
  refine wpAnyH_ready (rs := [5]) (by kernel_rfl) (by simp) ?_
  refine AllReadyH.cons rfl (fun J hJ => ?_) AllReadyH.nil
  go_simp
  refine (V'.out _ hS2.2.2.2.1).mono ?_
  rintro e w2 ⟨q4, q5, q6, rfl, ra, rb, rc, hb2⟩
  have hS3 : SApI w w.heap.size (w.heap.size + 1) cs cs' k k' K K' w2 := ⟨row_on hS2.1 hb2, row_on hS2.2.1 hb2, hS2.2.2.1.on hb2, hS2.2.2.2.1.on hb2, bel_on (Nat.le_refl _) hS2.2.2.2.2 hb2⟩
  have RD : Hid (Rd w2 q4 sk') := ra
  have RE : Hid (Rd w2 q5 cl') := rb
  have RF : Hid (Rd w2 q6 ol') := rc
  have RA : Hid (Rd w2 q1 sk) := RA.out.keep hb2 (Nat.le_refl _)
  have RB : Hid (Rd w2 q2 cl) := RB.out.keep hb2 (Nat.le_refl _)
  have RC : Hid (Rd w2 q3 ol) := RC.out.keep hb2 (Nat.le_refl _)
  clear ra rb rc hb2 hS2
  (try go_wp2_with fail)
  refine hJ.out _ _ hS3 (fun hHeld3 => ?_)
  clear hJ J hHeld2
  try simp only [Act.put, List.setIfInBounds_toArray, List.set_cons_zero, List.set_cons_succ, List.getElem_toArray, List.getElem_cons_zero, List.getElem_cons_succ]
  refine wpAnyH_ready (rs := [6]) (by kernel_rfl) (by simp) ?_
  refine AllReadyH.cons rfl (fun J hJ => ?_) AllReadyH.nil
  go_simp
  refine (isAsI st pc ss en la st' pc' ss' en' la' sk sk' cl cl' ol ol' q1 q2 q3 q4 q5 q6 n n2 n3 n' n2' n3' n n2 n3 n' n2' n3' HN.out.1.1 HN.out.1.2.1 HN.out.1.2.2 HN.out.2.1.1 HN.out.2.1.2.1 HN.out.2.1.2.2 HN.out.2.2 R HR.out _ ⟨RA.out, RB.out, RC.out, RD.out, RE.out, RF.out⟩).mono ?_
  rintro e w3 ⟨rfl, hb3⟩
  have hS4 : SApI w w.heap.size (w.heap.size + 1) cs cs' k k' K K' w3 := ⟨row_on hS3.1 hb3, row_on hS3.2.1 hb3, hS3.2.2.1.on hb3, hS3.2.2.2.1.on hb3, bel_on (Nat.le_refl _) hS3.2.2.2.2 hb3⟩
  have HBz : Hid (Below w.heap.size w w3) := hS4.2.2.2.2
  clear hb3 hS3 RA RB RC RD RE RF
  (try go_wp2_with fail)
  refine hJ.out _ _ hS4 (fun hHeld4 => ?_)
  clear hJ J hHeld3
  try simp only [Act.put, List.setIfInBounds_toArray, List.set_cons_zero, List.set_cons_succ, List.getElem_toArray, List.getElem_cons_zero, List.getElem_cons_succ]
  refine wpAnyH_take (i := 7) (v := ?_) rfl (by kernel_rfl) (by kernel_rfl) (by kernel_rfl) (fun _ _ _ h => h) (Or.inl ⟨by rfl, ?_⟩) (by assumption) ?_
  rotate_left
  · intro w_ hSw; (try dsimp only at hSw); clear hSw; (try clear hHeld4); go_simp <;> with_reducible rfl
  try simp only [Act.put, List.setIfInBounds_toArray, List.set_cons_zero, List.set_cons_succ, List.getElem_toArray, List.getElem_cons_zero, List.getElem_cons_succ]
  clear hHeld4 hS4
  refine wpAnyH_done (by kernel_rfl) ?_ _
  go_wp2
  go_ret
  exact ⟨rfl, HBz.out⟩
end Go.Proofs.Ytfdhcchakoldpaa.Ap
