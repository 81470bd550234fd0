/-
  A set-up as a whole: read, sized, copied, compared.
-/
import Derived.Test.YtfdhcchakoldpaaLst11
import Derived.Test.YtfdhcchakoldpaaStr11
import Derived.Test.YtfdhcchakoldpaaRegE
namespace Go.Proofs.Ytfdhcchakoldpaa
open Go.ChangeShapes Go.WideShapes Go.ChangeAt Go.RowKit Go.PlainAid
set_option linter.unusedVariables false

/-- where the five lists of a set-up lie -/
structure SH where
  q0 : Option Addr
  n0 : Nat
  c0 : Nat
  q1 : Option Addr
  n1 : Nat
  c1 : Nat
  q2 : Option Addr
  n2 : Nat
  c2 : Nat
  q3 : Option Addr
  n3 : Nat
  c3 : Nat
  q4 : Option Addr
  n4 : Nat
  c4 : Nat
/-- what they hold -/
structure SX where
  R : List (Int × Int)
  W : List (Int × Int)
  O : List Prt
  U : List Rule
  S : List ByteArray
def SetV (s : SH) : Value := .agg #[.slice s.q0 s.n0 s.c0, .slice s.q1 s.n1 s.c1, .slice s.q2 s.n2 s.c2, .slice s.q3 s.n3 s.c3, .slice s.q4 s.n4 s.c4]
/-- a set-up that is read, wherever it lies -/
structure RdX (w : World) (s : SH) (X : SX) : Prop where
  l0 : X.R.length = s.n0
  r0 : R.RdR w s.q0 X.R
  l1 : X.W.length = s.n1
  r1 : RdR w s.q1 X.W
  l2 : X.O.length = s.n2
  r2 : RdO w s.q2 X.O
  l3 : X.U.length = s.n3
  r3 : RdU w s.q3 X.U
  l4 : X.S.length = s.n4
  r4 : S.RdS w s.q4 X.S
theorem RdX.on {w w' : World} {s : SH} {X : SX} (h : RdX w s X) (hb : Below w.heap.size w w') : RdX w' s X :=
  ⟨h.l0, h.r0.keep hb (Nat.le_refl _), h.l1, h.r1.keep hb (Nat.le_refl _), h.l2, h.r2.keep hb (Nat.le_refl _), h.l3, h.r3.keep hb (Nat.le_refl _), h.l4, h.r4.keep hb (Nat.le_refl _)⟩
/-- no list, no text of it is longer than Go has numbers for -/
structure LimX (s : SH) (X : SX) : Prop where
  n0 : s.n0 ≤ 9223372036854775807
  n1 : s.n1 ≤ 9223372036854775807
  n2 : s.n2 ≤ 9223372036854775807
  n3 : s.n3 ≤ 9223372036854775807
  n4 : s.n4 ≤ 9223372036854775807
  z : ∀ j (h : j < X.S.length), (X.S[j]).size ≤ 9223372036854775807
/-- .. than the laws ask -/
structure SmX (s : SH) (X : SX) : Prop where
  n0 : s.n0 ≤ 1048576
  n1 : s.n1 ≤ 1048576
  n2 : s.n2 ≤ 1048576
  n3 : s.n3 ≤ 1048576
  n4 : s.n4 ≤ 1048576
  b : S.bytesS X.S ≤ 1048576

set_option maxRecDepth 100000 in
set_option maxHeartbeats 2000000 in
theorem szSet (s : SH) (X : SX) (w : World) (h : RdX w s X) (hm : LimX s X) :
    Calls Try.prog 58 #[SetV s, .int .i64 1048576] w fun e w' => ∃ r : Int, e = .returned (.int .i64 r) ∧ (r = -1 ∨ (0 ≤ r ∧ SmX s X)) ∧ Below w.heap.size w w' := by
  have HX : Hid (RdX w s X) := h
  have HM : Hid (LimX s X) := hm
  have HB : Hid (Below w.heap.size w (w.alloc (.cells #[.slice s.q0 s.n0 s.c0, .slice s.q1 s.n1 s.c1, .slice s.q2 s.n2 s.c2, .slice s.q3 s.n3 s.c3, .slice s.q4 s.n4 s.c4] 80))) := (Below.refl _ _).alloc (Nat.le_refl _) _
  have m0 := hm.n0
  have m1 := hm.n1
  have m2 := hm.n2
  have m3 := hm.n3
  have m4 := hm.n4
  clear h hm
  unfold SetV
  go_enter Try.func58, Try.ntmps58
  go_wp2_with fail
  refine (szR11 s.q0 s.n0 s.c0 ((1048576 : Int)) (by omega) (by omega) m0 _).mono ?_
  rintro e w0 ⟨rfl, rfl⟩
  by_cases h0 : (s.n0 : Int) ≤ (1048576 : Int)
  · rw [if_pos h0]
    have g0 : ¬ (1048576 : Int) - s.n0 < 0 := by omega
    go_wp2_with fail
    refine (szW11 s.q1 s.n1 s.c1 ((1048576 : Int) - s.n0) (by omega) (by omega) m1 _).mono ?_
    rintro e w1 ⟨rfl, rfl⟩
    by_cases h1 : (s.n1 : Int) ≤ (1048576 : Int) - s.n0
    · rw [if_pos h1]
      have g1 : ¬ (1048576 : Int) - s.n0 - s.n1 < 0 := by omega
      go_wp2_with fail
      refine (szO11 s.q2 s.n2 s.c2 ((1048576 : Int) - s.n0 - s.n1) (by omega) (by omega) m2 _).mono ?_
      rintro e w2 ⟨rfl, rfl⟩
      by_cases h2 : (s.n2 : Int) ≤ (1048576 : Int) - s.n0 - s.n1
      · rw [if_pos h2]
        have g2 : ¬ (1048576 : Int) - s.n0 - s.n1 - s.n2 < 0 := by omega
        go_wp2_with fail
        refine (szU11 s.q3 s.n3 s.c3 ((1048576 : Int) - s.n0 - s.n1 - s.n2) (by omega) (by omega) m3 _).mono ?_
        rintro e w3 ⟨rfl, rfl⟩
        by_cases h3 : (s.n3 : Int) ≤ (1048576 : Int) - s.n0 - s.n1 - s.n2
        · rw [if_pos h3]
          have g3 : ¬ (1048576 : Int) - s.n0 - s.n1 - s.n2 - s.n3 < 0 := by omega
          obtain ⟨r, hr⟩ : ∃ r : Int, r = if (s.n4 : Int) + S.bytesS X.S ≤ (1048576 : Int) - s.n0 - s.n1 - s.n2 - s.n3 then (1048576 : Int) - s.n0 - s.n1 - s.n2 - s.n3 - s.n4 - S.bytesS X.S else -1 := ⟨_, rfl⟩
          have HR : Hid (r = -1 ∨ (0 ≤ r ∧ SmX s X)) := by
            by_cases hc : (s.n4 : Int) + S.bytesS X.S ≤ (1048576 : Int) - s.n0 - s.n1 - s.n2 - s.n3
            · rw [if_pos hc] at hr
              exact .inr ⟨by omega, ⟨by omega, by omega, by omega, by omega, by omega, by omega⟩⟩
            · rw [if_neg hc] at hr
              exact .inl hr
          have HRr : Hid (r = if (s.n4 : Int) + S.bytesS X.S ≤ (1048576 : Int) - s.n0 - s.n1 - s.n2 - s.n3 then (1048576 : Int) - s.n0 - s.n1 - s.n2 - s.n3 - s.n4 - S.bytesS X.S else -1) := hr
          clear hr
          go_wp2_with fail
          refine (S.szSs s.q4 X.S s.n4 s.c4 ((1048576 : Int) - s.n0 - s.n1 - s.n2 - s.n3) r (by omega) (by omega) HX.out.l4 m4 HM.out.z HRr.out _ (HX.out.on HB.out).r4).mono ?_
          rintro e w4 ⟨rfl, rfl⟩
          clear HRr
          by_cases hn : r < 0
          · have HE : Hid (r = -1) := by rcases HR.out with h' | h'; exact h'; omega
            go_wp2
            go_ret
            exact ⟨-1, rfl, .inl rfl, HB.out⟩
          · go_wp2
            go_ret
            exact ⟨r, rfl, HR.out, HB.out⟩
        · rw [if_neg h3]
          go_wp2
          go_ret
          exact ⟨-1, rfl, .inl rfl, HB.out⟩
      · rw [if_neg h2]
        go_wp2
        go_ret
        exact ⟨-1, rfl, .inl rfl, HB.out⟩
    · rw [if_neg h1]
      go_wp2
      go_ret
      exact ⟨-1, rfl, .inl rfl, HB.out⟩
  · rw [if_neg h0]
    go_wp2
    go_ret
    exact ⟨-1, rfl, .inl rfl, HB.out⟩

theorem set_row5 {w : World} {k : Nat} {T : TypeId} {a : Array Value} (h : w.heap[k]? = some (.cells a T)) (i : Nat) (x : Value) : (w.setCell ⟨k, i, none⟩ x).heap[k]? = some (.cells (a.setIfInBounds i x) T) := heap_setCell_same w k i _ _ x h
theorem set_far {w : World} {k g i : Nat} {o : Obj} {x : Value} (h : w.heap[g]? = some o) (hne : g ≠ k) : (w.setCell ⟨k, i, none⟩ x).heap[g]? = some o := (Below.heap_setCell _ _ _ _ hne).trans h
theorem set_far5 {w : World} {k g : Nat} {o : Obj} {a b c d e : Value} (h : w.heap[g]? = some o) (hne : g ≠ k) : (((((w.setCell ⟨k, 0, none⟩ a).setCell ⟨k, 1, none⟩ b).setCell ⟨k, 2, none⟩ c).setCell ⟨k, 3, none⟩ d).setCell ⟨k, 4, none⟩ e).heap[g]? = some o := set_far (set_far (set_far (set_far (set_far h hne) hne) hne) hne) hne
set_option maxRecDepth 100000 in
set_option maxHeartbeats 4000000 in
theorem toSet (s : SH) (X : SX) (w : World) (h : RdX w s X) (hs : SmX s X) :
    Calls Try.prog 64 #[SetV s] w fun e w' => ∃ s', e = .returned (SetV s') ∧ RdX w' s' X ∧ s'.n0 ≤ s'.c0 ∧ Below w.heap.size w w' := by
  have HX : Hid (RdX w s X) := h
  have HS : Hid (SmX s X) := hs
  have HB0 : Hid (Below w.heap.size w (((w.alloc (.cells #[.slice s.q0 s.n0 s.c0, .slice s.q1 s.n1 s.c1, .slice s.q2 s.n2 s.c2, .slice s.q3 s.n3 s.c3, .slice s.q4 s.n4 s.c4] 80)).alloc (.cells #[.slice none 0 0, .slice none 0 0, .slice none 0 0, .slice none 0 0, .slice none 0 0] 30)).alloc (.cells #[.slice none 0 0, .slice none 0 0, .slice none 0 0, .slice none 0 0, .slice none 0 0] 30))) := (((Below.refl _ _).alloc (Nat.le_refl _) _).alloc (by simp) _).alloc (by simp; omega) _
  have HI0 : Hid ((((w.alloc (.cells #[.slice s.q0 s.n0 s.c0, .slice s.q1 s.n1 s.c1, .slice s.q2 s.n2 s.c2, .slice s.q3 s.n3 s.c3, .slice s.q4 s.n4 s.c4] 80)).alloc (.cells #[.slice none 0 0, .slice none 0 0, .slice none 0 0, .slice none 0 0, .slice none 0 0] 30)).alloc (.cells #[.slice none 0 0, .slice none 0 0, .slice none 0 0, .slice none 0 0, .slice none 0 0] 30)).heap[w.heap.size]? = some (.cells #[.slice s.q0 s.n0 s.c0, .slice s.q1 s.n1 s.c1, .slice s.q2 s.n2 s.c2, .slice s.q3 s.n3 s.c3, .slice s.q4 s.n4 s.c4] 80)) :=
    row_on (row_on (heap_new w _) ((Below.refl _ _).alloc (Nat.le_refl _) _)) ((Below.refl _ _).alloc (Nat.le_refl _) _)
  have HZ0 : Hid ((((w.alloc (.cells #[.slice s.q0 s.n0 s.c0, .slice s.q1 s.n1 s.c1, .slice s.q2 s.n2 s.c2, .slice s.q3 s.n3 s.c3, .slice s.q4 s.n4 s.c4] 80)).alloc (.cells #[.slice none 0 0, .slice none 0 0, .slice none 0 0, .slice none 0 0, .slice none 0 0] 30)).alloc (.cells #[.slice none 0 0, .slice none 0 0, .slice none 0 0, .slice none 0 0, .slice none 0 0] 30)).heap[w.heap.size + 1]? = some (.cells #[.slice none 0 0, .slice none 0 0, .slice none 0 0, .slice none 0 0, .slice none 0 0] 30)) := by
    have h1 := heap_new (w.alloc (.cells #[.slice s.q0 s.n0 s.c0, .slice s.q1 s.n1 s.c1, .slice s.q2 s.n2 s.c2, .slice s.q3 s.n3 s.c3, .slice s.q4 s.n4 s.c4] 80)) (.cells #[.slice none 0 0, .slice none 0 0, .slice none 0 0, .slice none 0 0, .slice none 0 0] 30)
    have e1 : (w.alloc (.cells #[.slice s.q0 s.n0 s.c0, .slice s.q1 s.n1 s.c1, .slice s.q2 s.n2 s.c2, .slice s.q3 s.n3 s.c3, .slice s.q4 s.n4 s.c4] 80)).heap.size = w.heap.size + 1 := by simp
    rw [e1] at h1
    exact row_on h1 ((Below.refl _ _).alloc (Nat.le_refl _) _)
  have HO0 : Hid ((((w.alloc (.cells #[.slice s.q0 s.n0 s.c0, .slice s.q1 s.n1 s.c1, .slice s.q2 s.n2 s.c2, .slice s.q3 s.n3 s.c3, .slice s.q4 s.n4 s.c4] 80)).alloc (.cells #[.slice none 0 0, .slice none 0 0, .slice none 0 0, .slice none 0 0, .slice none 0 0] 30)).alloc (.cells #[.slice none 0 0, .slice none 0 0, .slice none 0 0, .slice none 0 0, .slice none 0 0] 30)).heap[w.heap.size + 1 + 1]? = some (.cells #[.slice none 0 0, .slice none 0 0, .slice none 0 0, .slice none 0 0, .slice none 0 0] 30)) := by
    have h1 := heap_new ((w.alloc (.cells #[.slice s.q0 s.n0 s.c0, .slice s.q1 s.n1 s.c1, .slice s.q2 s.n2 s.c2, .slice s.q3 s.n3 s.c3, .slice s.q4 s.n4 s.c4] 80)).alloc (.cells #[.slice none 0 0, .slice none 0 0, .slice none 0 0, .slice none 0 0, .slice none 0 0] 30)) (.cells #[.slice none 0 0, .slice none 0 0, .slice none 0 0, .slice none 0 0, .slice none 0 0] 30)
    have e1 : ((w.alloc (.cells #[.slice s.q0 s.n0 s.c0, .slice s.q1 s.n1 s.c1, .slice s.q2 s.n2 s.c2, .slice s.q3 s.n3 s.c3, .slice s.q4 s.n4 s.c4] 80)).alloc (.cells #[.slice none 0 0, .slice none 0 0, .slice none 0 0, .slice none 0 0, .slice none 0 0] 30)).heap.size = w.heap.size + 1 + 1 := by simp
    rw [e1] at h1
    exact h1
  clear h hs
  unfold SetV
  go_enter Try.func64, Try.ntmps64
  go_wp2_with fail
  refine (R.toRs s.q0 X.R s.n0 s.c0 HX.out.l0 HS.out.n0 _ (HX.out.r0.keep HB0.out (Nat.le_refl _))).mono ?_
  rintro e v1 ⟨rfl, hrow0, hb1⟩
  obtain ⟨g0, hg0⟩ : ∃ k, (((w.alloc (.cells #[.slice s.q0 s.n0 s.c0, .slice s.q1 s.n1 s.c1, .slice s.q2 s.n2 s.c2, .slice s.q3 s.n3 s.c3, .slice s.q4 s.n4 s.c4] 80)).alloc (.cells #[.slice none 0 0, .slice none 0 0, .slice none 0 0, .slice none 0 0, .slice none 0 0] 30)).alloc (.cells #[.slice none 0 0, .slice none 0 0, .slice none 0 0, .slice none 0 0, .slice none 0 0] 30)).heap.size = k := ⟨_, rfl⟩
  have hlt0 : w.heap.size + 1 + 1 < g0 := by rw [← hg0]; exact row_lt HO0.out
  rw [hg0] at hrow0
  try rw [hg0]
  try (have hg0' := hg0; simp only [size_alloc', World.alloc, Array.size_push] at hg0')
  have HI0b : Hid (v1.heap[w.heap.size]? = some (.cells #[.slice s.q0 s.n0 s.c0, .slice s.q1 s.n1 s.c1, .slice s.q2 s.n2 s.c2, .slice s.q3 s.n3 s.c3, .slice s.q4 s.n4 s.c4] 80)) := row_on HI0.out hb1
  have HZ0b : Hid (v1.heap[w.heap.size + 1]? = some (.cells #[.slice none 0 0, .slice none 0 0, .slice none 0 0, .slice none 0 0, .slice none 0 0] 30)) := row_on HZ0.out hb1
  have HO0b : Hid (v1.heap[w.heap.size + 1 + 1]? = some (.cells #[.slice none 0 0, .slice none 0 0, .slice none 0 0, .slice none 0 0, .slice none 0 0] 30)) := row_on HO0.out hb1
  have HB0b : Hid (Below w.heap.size w v1) := bel_on (Nat.le_refl _) HB0.out hb1
  have HI1 : Hid ((v1.setCell ⟨w.heap.size + 1 + 1, 0, none⟩ (.slice (some ⟨g0, 0, none⟩) s.n0 s.n0)).heap[w.heap.size]? = some (.cells #[.slice s.q0 s.n0 s.c0, .slice s.q1 s.n1 s.c1, .slice s.q2 s.n2 s.c2, .slice s.q3 s.n3 s.c3, .slice s.q4 s.n4 s.c4] 80)) := set_far HI0b.out (by omega)
  have HZ1 : Hid ((v1.setCell ⟨w.heap.size + 1 + 1, 0, none⟩ (.slice (some ⟨g0, 0, none⟩) s.n0 s.n0)).heap[w.heap.size + 1]? = some (.cells #[.slice none 0 0, .slice none 0 0, .slice none 0 0, .slice none 0 0, .slice none 0 0] 30)) := set_far HZ0b.out (by omega)
  have HO1 : Hid ((v1.setCell ⟨w.heap.size + 1 + 1, 0, none⟩ (.slice (some ⟨g0, 0, none⟩) s.n0 s.n0)).heap[w.heap.size + 1 + 1]? = some (.cells #[.slice (some ⟨g0, 0, none⟩) s.n0 s.n0, .slice none 0 0, .slice none 0 0, .slice none 0 0, .slice none 0 0] 30)) := set_row5 HO0b.out 0 _
  have HB1 : Hid (Below w.heap.size w (v1.setCell ⟨w.heap.size + 1 + 1, 0, none⟩ (.slice (some ⟨g0, 0, none⟩) s.n0 s.n0))) := HB0b.out.setCell (by simp; omega) _
  have HQ0_1 : Hid (R.RowR (v1.setCell ⟨w.heap.size + 1 + 1, 0, none⟩ (.slice (some ⟨g0, 0, none⟩) s.n0 s.n0)) g0 X.R) := set_far hrow0 (by omega)
  have k0 := boxO_cells HI0b.out
  have o0 := boxO_cells HO0b.out
  skip
  clear hb1 hrow0 hg0 HI0 HZ0 HO0 HB0 HI0b HZ0b HO0b HB0b  
  go_wp2_with fail
  refine (toRs s.q1 X.W s.n1 s.c1 HX.out.l1 HS.out.n1 _ (HX.out.r1.keep HB1.out (Nat.le_refl _))).mono ?_
  rintro e v2 ⟨rfl, hrow1, hb2⟩
  obtain ⟨g1, hg1⟩ : ∃ k, (v1.setCell ⟨w.heap.size + 1 + 1, 0, none⟩ (.slice (some ⟨g0, 0, none⟩) s.n0 s.n0)).heap.size = k := ⟨_, rfl⟩
  have hlt1 : w.heap.size + 1 + 1 < g1 := by rw [← hg1]; exact row_lt HO1.out
  rw [hg1] at hrow1
  try rw [hg1]
  try (have hg1' := hg1; simp only [size_alloc', World.alloc, Array.size_push] at hg1')
  have HI1b : Hid (v2.heap[w.heap.size]? = some (.cells #[.slice s.q0 s.n0 s.c0, .slice s.q1 s.n1 s.c1, .slice s.q2 s.n2 s.c2, .slice s.q3 s.n3 s.c3, .slice s.q4 s.n4 s.c4] 80)) := row_on HI1.out hb2
  have HZ1b : Hid (v2.heap[w.heap.size + 1]? = some (.cells #[.slice none 0 0, .slice none 0 0, .slice none 0 0, .slice none 0 0, .slice none 0 0] 30)) := row_on HZ1.out hb2
  have HO1b : Hid (v2.heap[w.heap.size + 1 + 1]? = some (.cells #[.slice (some ⟨g0, 0, none⟩) s.n0 s.n0, .slice none 0 0, .slice none 0 0, .slice none 0 0, .slice none 0 0] 30)) := row_on HO1.out hb2
  have HB1b : Hid (Below w.heap.size w v2) := bel_on (Nat.le_refl _) HB1.out hb2
  have HQ0_1b : Hid (R.RowR v2 g0 X.R) := HQ0_1.out.on hb2
  have HI2 : Hid ((v2.setCell ⟨w.heap.size + 1 + 1, 1, none⟩ (.slice (some ⟨g1, 0, none⟩) s.n1 s.n1)).heap[w.heap.size]? = some (.cells #[.slice s.q0 s.n0 s.c0, .slice s.q1 s.n1 s.c1, .slice s.q2 s.n2 s.c2, .slice s.q3 s.n3 s.c3, .slice s.q4 s.n4 s.c4] 80)) := set_far HI1b.out (by omega)
  have HZ2 : Hid ((v2.setCell ⟨w.heap.size + 1 + 1, 1, none⟩ (.slice (some ⟨g1, 0, none⟩) s.n1 s.n1)).heap[w.heap.size + 1]? = some (.cells #[.slice none 0 0, .slice none 0 0, .slice none 0 0, .slice none 0 0, .slice none 0 0] 30)) := set_far HZ1b.out (by omega)
  have HO2 : Hid ((v2.setCell ⟨w.heap.size + 1 + 1, 1, none⟩ (.slice (some ⟨g1, 0, none⟩) s.n1 s.n1)).heap[w.heap.size + 1 + 1]? = some (.cells #[.slice (some ⟨g0, 0, none⟩) s.n0 s.n0, .slice (some ⟨g1, 0, none⟩) s.n1 s.n1, .slice none 0 0, .slice none 0 0, .slice none 0 0] 30)) := set_row5 HO1b.out 1 _
  have HB2 : Hid (Below w.heap.size w (v2.setCell ⟨w.heap.size + 1 + 1, 1, none⟩ (.slice (some ⟨g1, 0, none⟩) s.n1 s.n1))) := HB1b.out.setCell (by simp; omega) _
  have HQ0_2 : Hid (R.RowR (v2.setCell ⟨w.heap.size + 1 + 1, 1, none⟩ (.slice (some ⟨g1, 0, none⟩) s.n1 s.n1)) g0 X.R) := set_far HQ0_1b.out (by omega)
  have HQ1_2 : Hid (RowR (v2.setCell ⟨w.heap.size + 1 + 1, 1, none⟩ (.slice (some ⟨g1, 0, none⟩) s.n1 s.n1)) g1 X.W) := set_far hrow1 (by omega)
  have k1 := boxO_cells HI1b.out
  have o1 := boxO_cells HO1b.out
  skip
  clear hb2 hrow1 hg1 HI1 HZ1 HO1 HB1 HI1b HZ1b HO1b HB1b HQ0_1 HQ0_1b k0 o0
  go_wp2_with fail
  refine (toOs s.q2 X.O s.n2 s.c2 HX.out.l2 HS.out.n2 _ (HX.out.r2.keep HB2.out (Nat.le_refl _))).mono ?_
  rintro e v3 ⟨rfl, hrow2, hb3⟩
  obtain ⟨g2, hg2⟩ : ∃ k, (v2.setCell ⟨w.heap.size + 1 + 1, 1, none⟩ (.slice (some ⟨g1, 0, none⟩) s.n1 s.n1)).heap.size = k := ⟨_, rfl⟩
  have hlt2 : w.heap.size + 1 + 1 < g2 := by rw [← hg2]; exact row_lt HO2.out
  rw [hg2] at hrow2
  try rw [hg2]
  try (have hg2' := hg2; simp only [size_alloc', World.alloc, Array.size_push] at hg2')
  have HI2b : Hid (v3.heap[w.heap.size]? = some (.cells #[.slice s.q0 s.n0 s.c0, .slice s.q1 s.n1 s.c1, .slice s.q2 s.n2 s.c2, .slice s.q3 s.n3 s.c3, .slice s.q4 s.n4 s.c4] 80)) := row_on HI2.out hb3
  have HZ2b : Hid (v3.heap[w.heap.size + 1]? = some (.cells #[.slice none 0 0, .slice none 0 0, .slice none 0 0, .slice none 0 0, .slice none 0 0] 30)) := row_on HZ2.out hb3
  have HO2b : Hid (v3.heap[w.heap.size + 1 + 1]? = some (.cells #[.slice (some ⟨g0, 0, none⟩) s.n0 s.n0, .slice (some ⟨g1, 0, none⟩) s.n1 s.n1, .slice none 0 0, .slice none 0 0, .slice none 0 0] 30)) := row_on HO2.out hb3
  have HB2b : Hid (Below w.heap.size w v3) := bel_on (Nat.le_refl _) HB2.out hb3
  have HQ0_2b : Hid (R.RowR v3 g0 X.R) := HQ0_2.out.on hb3
  have HQ1_2b : Hid (RowR v3 g1 X.W) := HQ1_2.out.on hb3
  have HI3 : Hid ((v3.setCell ⟨w.heap.size + 1 + 1, 2, none⟩ (.slice (some ⟨g2, 0, none⟩) s.n2 s.n2)).heap[w.heap.size]? = some (.cells #[.slice s.q0 s.n0 s.c0, .slice s.q1 s.n1 s.c1, .slice s.q2 s.n2 s.c2, .slice s.q3 s.n3 s.c3, .slice s.q4 s.n4 s.c4] 80)) := set_far HI2b.out (by omega)
  have HZ3 : Hid ((v3.setCell ⟨w.heap.size + 1 + 1, 2, none⟩ (.slice (some ⟨g2, 0, none⟩) s.n2 s.n2)).heap[w.heap.size + 1]? = some (.cells #[.slice none 0 0, .slice none 0 0, .slice none 0 0, .slice none 0 0, .slice none 0 0] 30)) := set_far HZ2b.out (by omega)
  have HO3 : Hid ((v3.setCell ⟨w.heap.size + 1 + 1, 2, none⟩ (.slice (some ⟨g2, 0, none⟩) s.n2 s.n2)).heap[w.heap.size + 1 + 1]? = some (.cells #[.slice (some ⟨g0, 0, none⟩) s.n0 s.n0, .slice (some ⟨g1, 0, none⟩) s.n1 s.n1, .slice (some ⟨g2, 0, none⟩) s.n2 s.n2, .slice none 0 0, .slice none 0 0] 30)) := set_row5 HO2b.out 2 _
  have HB3 : Hid (Below w.heap.size w (v3.setCell ⟨w.heap.size + 1 + 1, 2, none⟩ (.slice (some ⟨g2, 0, none⟩) s.n2 s.n2))) := HB2b.out.setCell (by simp; omega) _
  have HQ0_3 : Hid (R.RowR (v3.setCell ⟨w.heap.size + 1 + 1, 2, none⟩ (.slice (some ⟨g2, 0, none⟩) s.n2 s.n2)) g0 X.R) := set_far HQ0_2b.out (by omega)
  have HQ1_3 : Hid (RowR (v3.setCell ⟨w.heap.size + 1 + 1, 2, none⟩ (.slice (some ⟨g2, 0, none⟩) s.n2 s.n2)) g1 X.W) := set_far HQ1_2b.out (by omega)
  have HQ2_3 : Hid (RowO (v3.setCell ⟨w.heap.size + 1 + 1, 2, none⟩ (.slice (some ⟨g2, 0, none⟩) s.n2 s.n2)) g2 X.O) := set_far hrow2 (by omega)
  have k2 := boxO_cells HI2b.out
  have o2 := boxO_cells HO2b.out
  skip
  clear hb3 hrow2 hg2 HI2 HZ2 HO2 HB2 HI2b HZ2b HO2b HB2b HQ0_2 HQ0_2b HQ1_2 HQ1_2b k1 o1
  go_wp2_with fail
  refine (toUs s.q3 X.U s.n3 s.c3 HX.out.l3 HS.out.n3 _ (HX.out.r3.keep HB3.out (Nat.le_refl _))).mono ?_
  rintro e v4 ⟨rfl, hrow3, hb4⟩
  obtain ⟨g3, hg3⟩ : ∃ k, (v3.setCell ⟨w.heap.size + 1 + 1, 2, none⟩ (.slice (some ⟨g2, 0, none⟩) s.n2 s.n2)).heap.size = k := ⟨_, rfl⟩
  have hlt3 : w.heap.size + 1 + 1 < g3 := by rw [← hg3]; exact row_lt HO3.out
  rw [hg3] at hrow3
  try rw [hg3]
  try (have hg3' := hg3; simp only [size_alloc', World.alloc, Array.size_push] at hg3')
  have HI3b : Hid (v4.heap[w.heap.size]? = some (.cells #[.slice s.q0 s.n0 s.c0, .slice s.q1 s.n1 s.c1, .slice s.q2 s.n2 s.c2, .slice s.q3 s.n3 s.c3, .slice s.q4 s.n4 s.c4] 80)) := row_on HI3.out hb4
  have HZ3b : Hid (v4.heap[w.heap.size + 1]? = some (.cells #[.slice none 0 0, .slice none 0 0, .slice none 0 0, .slice none 0 0, .slice none 0 0] 30)) := row_on HZ3.out hb4
  have HO3b : Hid (v4.heap[w.heap.size + 1 + 1]? = some (.cells #[.slice (some ⟨g0, 0, none⟩) s.n0 s.n0, .slice (some ⟨g1, 0, none⟩) s.n1 s.n1, .slice (some ⟨g2, 0, none⟩) s.n2 s.n2, .slice none 0 0, .slice none 0 0] 30)) := row_on HO3.out hb4
  have HB3b : Hid (Below w.heap.size w v4) := bel_on (Nat.le_refl _) HB3.out hb4
  have HQ0_3b : Hid (R.RowR v4 g0 X.R) := HQ0_3.out.on hb4
  have HQ1_3b : Hid (RowR v4 g1 X.W) := HQ1_3.out.on hb4
  have HQ2_3b : Hid (RowO v4 g2 X.O) := HQ2_3.out.on hb4
  have HI4 : Hid ((v4.setCell ⟨w.heap.size + 1 + 1, 3, none⟩ (.slice (some ⟨g3, 0, none⟩) s.n3 s.n3)).heap[w.heap.size]? = some (.cells #[.slice s.q0 s.n0 s.c0, .slice s.q1 s.n1 s.c1, .slice s.q2 s.n2 s.c2, .slice s.q3 s.n3 s.c3, .slice s.q4 s.n4 s.c4] 80)) := set_far HI3b.out (by omega)
  have HZ4 : Hid ((v4.setCell ⟨w.heap.size + 1 + 1, 3, none⟩ (.slice (some ⟨g3, 0, none⟩) s.n3 s.n3)).heap[w.heap.size + 1]? = some (.cells #[.slice none 0 0, .slice none 0 0, .slice none 0 0, .slice none 0 0, .slice none 0 0] 30)) := set_far HZ3b.out (by omega)
  have HO4 : Hid ((v4.setCell ⟨w.heap.size + 1 + 1, 3, none⟩ (.slice (some ⟨g3, 0, none⟩) s.n3 s.n3)).heap[w.heap.size + 1 + 1]? = some (.cells #[.slice (some ⟨g0, 0, none⟩) s.n0 s.n0, .slice (some ⟨g1, 0, none⟩) s.n1 s.n1, .slice (some ⟨g2, 0, none⟩) s.n2 s.n2, .slice (some ⟨g3, 0, none⟩) s.n3 s.n3, .slice none 0 0] 30)) := set_row5 HO3b.out 3 _
  have HB4 : Hid (Below w.heap.size w (v4.setCell ⟨w.heap.size + 1 + 1, 3, none⟩ (.slice (some ⟨g3, 0, none⟩) s.n3 s.n3))) := HB3b.out.setCell (by simp; omega) _
  have HQ0_4 : Hid (R.RowR (v4.setCell ⟨w.heap.size + 1 + 1, 3, none⟩ (.slice (some ⟨g3, 0, none⟩) s.n3 s.n3)) g0 X.R) := set_far HQ0_3b.out (by omega)
  have HQ1_4 : Hid (RowR (v4.setCell ⟨w.heap.size + 1 + 1, 3, none⟩ (.slice (some ⟨g3, 0, none⟩) s.n3 s.n3)) g1 X.W) := set_far HQ1_3b.out (by omega)
  have HQ2_4 : Hid (RowO (v4.setCell ⟨w.heap.size + 1 + 1, 3, none⟩ (.slice (some ⟨g3, 0, none⟩) s.n3 s.n3)) g2 X.O) := set_far HQ2_3b.out (by omega)
  have HQ3_4 : Hid (RowU (v4.setCell ⟨w.heap.size + 1 + 1, 3, none⟩ (.slice (some ⟨g3, 0, none⟩) s.n3 s.n3)) g3 X.U) := set_far hrow3 (by omega)
  have k3 := boxO_cells HI3b.out
  have o3 := boxO_cells HO3b.out
  skip
  clear hb4 hrow3 hg3 HI3 HZ3 HO3 HB3 HI3b HZ3b HO3b HB3b HQ0_3 HQ0_3b HQ1_3 HQ1_3b HQ2_3 HQ2_3b k2 o2
  go_wp2_with fail
  refine (S.toSs s.q4 X.S s.n4 s.c4 HX.out.l4 HS.out.n4 _ (HX.out.r4.keep HB4.out (Nat.le_refl _))).mono ?_
  rintro e v5 ⟨rfl, hrow4, hb5⟩
  obtain ⟨g4, hg4⟩ : ∃ k, (v4.setCell ⟨w.heap.size + 1 + 1, 3, none⟩ (.slice (some ⟨g3, 0, none⟩) s.n3 s.n3)).heap.size = k := ⟨_, rfl⟩
  have hlt4 : w.heap.size + 1 + 1 < g4 := by rw [← hg4]; exact row_lt HO4.out
  rw [hg4] at hrow4
  try rw [hg4]
  try (have hg4' := hg4; simp only [size_alloc', World.alloc, Array.size_push] at hg4')
  have HI4b : Hid (v5.heap[w.heap.size]? = some (.cells #[.slice s.q0 s.n0 s.c0, .slice s.q1 s.n1 s.c1, .slice s.q2 s.n2 s.c2, .slice s.q3 s.n3 s.c3, .slice s.q4 s.n4 s.c4] 80)) := row_on HI4.out hb5
  have HZ4b : Hid (v5.heap[w.heap.size + 1]? = some (.cells #[.slice none 0 0, .slice none 0 0, .slice none 0 0, .slice none 0 0, .slice none 0 0] 30)) := row_on HZ4.out hb5
  have HO4b : Hid (v5.heap[w.heap.size + 1 + 1]? = some (.cells #[.slice (some ⟨g0, 0, none⟩) s.n0 s.n0, .slice (some ⟨g1, 0, none⟩) s.n1 s.n1, .slice (some ⟨g2, 0, none⟩) s.n2 s.n2, .slice (some ⟨g3, 0, none⟩) s.n3 s.n3, .slice none 0 0] 30)) := row_on HO4.out hb5
  have HB4b : Hid (Below w.heap.size w v5) := bel_on (Nat.le_refl _) HB4.out hb5
  have HQ0_4b : Hid (R.RowR v5 g0 X.R) := HQ0_4.out.on hb5
  have HQ1_4b : Hid (RowR v5 g1 X.W) := HQ1_4.out.on hb5
  have HQ2_4b : Hid (RowO v5 g2 X.O) := HQ2_4.out.on hb5
  have HQ3_4b : Hid (RowU v5 g3 X.U) := HQ3_4.out.on hb5
  have HI5 : Hid ((v5.setCell ⟨w.heap.size + 1 + 1, 4, none⟩ (.slice (some ⟨g4, 0, none⟩) s.n4 s.n4)).heap[w.heap.size]? = some (.cells #[.slice s.q0 s.n0 s.c0, .slice s.q1 s.n1 s.c1, .slice s.q2 s.n2 s.c2, .slice s.q3 s.n3 s.c3, .slice s.q4 s.n4 s.c4] 80)) := set_far HI4b.out (by omega)
  have HZ5 : Hid ((v5.setCell ⟨w.heap.size + 1 + 1, 4, none⟩ (.slice (some ⟨g4, 0, none⟩) s.n4 s.n4)).heap[w.heap.size + 1]? = some (.cells #[.slice none 0 0, .slice none 0 0, .slice none 0 0, .slice none 0 0, .slice none 0 0] 30)) := set_far HZ4b.out (by omega)
  have HO5 : Hid ((v5.setCell ⟨w.heap.size + 1 + 1, 4, none⟩ (.slice (some ⟨g4, 0, none⟩) s.n4 s.n4)).heap[w.heap.size + 1 + 1]? = some (.cells #[.slice (some ⟨g0, 0, none⟩) s.n0 s.n0, .slice (some ⟨g1, 0, none⟩) s.n1 s.n1, .slice (some ⟨g2, 0, none⟩) s.n2 s.n2, .slice (some ⟨g3, 0, none⟩) s.n3 s.n3, .slice (some ⟨g4, 0, none⟩) s.n4 s.n4] 30)) := set_row5 HO4b.out 4 _
  have HB5 : Hid (Below w.heap.size w (v5.setCell ⟨w.heap.size + 1 + 1, 4, none⟩ (.slice (some ⟨g4, 0, none⟩) s.n4 s.n4))) := HB4b.out.setCell (by simp; omega) _
  have HQ0_5 : Hid (R.RowR (v5.setCell ⟨w.heap.size + 1 + 1, 4, none⟩ (.slice (some ⟨g4, 0, none⟩) s.n4 s.n4)) g0 X.R) := set_far HQ0_4b.out (by omega)
  have HQ1_5 : Hid (RowR (v5.setCell ⟨w.heap.size + 1 + 1, 4, none⟩ (.slice (some ⟨g4, 0, none⟩) s.n4 s.n4)) g1 X.W) := set_far HQ1_4b.out (by omega)
  have HQ2_5 : Hid (RowO (v5.setCell ⟨w.heap.size + 1 + 1, 4, none⟩ (.slice (some ⟨g4, 0, none⟩) s.n4 s.n4)) g2 X.O) := set_far HQ2_4b.out (by omega)
  have HQ3_5 : Hid (RowU (v5.setCell ⟨w.heap.size + 1 + 1, 4, none⟩ (.slice (some ⟨g4, 0, none⟩) s.n4 s.n4)) g3 X.U) := set_far HQ3_4b.out (by omega)
  have HQ4_5 : Hid (S.RowS (v5.setCell ⟨w.heap.size + 1 + 1, 4, none⟩ (.slice (some ⟨g4, 0, none⟩) s.n4 s.n4)) g4 X.S) := set_far hrow4 (by omega)
  have k4 := boxO_cells HI4b.out
  have o4 := boxO_cells HO4b.out
  have z4 := boxO_cells HZ4b.out
  clear hb5 hrow4 hg4 HI4 HZ4 HO4 HB4 HI4b HZ4b HO4b HB4b HQ0_4 HQ0_4b HQ1_4 HQ1_4b HQ2_4 HQ2_4b HQ3_4 HQ3_4b k3 o3
  clear k4
  go_wp2
  refine bodyPost_ret (v := .agg #[.slice (some ⟨g0, 0, none⟩) s.n0 s.n0, .slice (some ⟨g1, 0, none⟩) s.n1 s.n1, .slice (some ⟨g2, 0, none⟩) s.n2 s.n2, .slice (some ⟨g3, 0, none⟩) s.n3 s.n3, .slice (some ⟨g4, 0, none⟩) s.n4 s.n4]) (by simp [results, Try.results64, go_sem, z4]) rfl ⟨⟨some ⟨g0, 0, none⟩, s.n0, s.n0, some ⟨g1, 0, none⟩, s.n1, s.n1, some ⟨g2, 0, none⟩, s.n2, s.n2, some ⟨g3, 0, none⟩, s.n3, s.n3, some ⟨g4, 0, none⟩, s.n4, s.n4⟩, rfl, ⟨HX.out.l0, R.RowR.rd (set_far5 HQ0_5.out (by omega)), HX.out.l1, RowR.rd (set_far5 HQ1_5.out (by omega)), HX.out.l2, RowO.rd (set_far5 HQ2_5.out (by omega)), HX.out.l3, RowU.rd (set_far5 HQ3_5.out (by omega)), HX.out.l4, S.RowS.rd (set_far5 HQ4_5.out (by omega))⟩, Nat.le_refl _, ?_⟩
  exact ((((HB5.out.setCell (by simp) _).setCell (by simp) _).setCell (by simp) _).setCell (by simp) _).setCell (by simp) _

set_option maxRecDepth 100000 in
set_option maxHeartbeats 4000000 in
theorem eqSet (s u : SH) (X : SX) (w : World) (h : RdX w s X) (h' : RdX w u X) (hs : SmX s X) :
    Calls Try.prog 70 #[SetV s, SetV u] w fun e w' => e = .returned (.bool true) ∧ Below w.heap.size w w' := by
  have HX : Hid (RdX w s X) := h
  have HY : Hid (RdX w u X) := h'
  have HS : Hid (SmX s X) := hs
  have HB0 : Hid (Below w.heap.size w ((w.alloc (.cells #[.slice s.q0 s.n0 s.c0, .slice s.q1 s.n1 s.c1, .slice s.q2 s.n2 s.c2, .slice s.q3 s.n3 s.c3, .slice s.q4 s.n4 s.c4] 30)).alloc (.cells #[.slice u.q0 u.n0 u.c0, .slice u.q1 u.n1 u.c1, .slice u.q2 u.n2 u.c2, .slice u.q3 u.n3 u.c3, .slice u.q4 u.n4 u.c4] 30))) := ((Below.refl _ _).alloc (Nat.le_refl _) _).alloc (by simp) _
  have HP0 : Hid (((w.alloc (.cells #[.slice s.q0 s.n0 s.c0, .slice s.q1 s.n1 s.c1, .slice s.q2 s.n2 s.c2, .slice s.q3 s.n3 s.c3, .slice s.q4 s.n4 s.c4] 30)).alloc (.cells #[.slice u.q0 u.n0 u.c0, .slice u.q1 u.n1 u.c1, .slice u.q2 u.n2 u.c2, .slice u.q3 u.n3 u.c3, .slice u.q4 u.n4 u.c4] 30)).heap[w.heap.size]? = some (.cells #[.slice s.q0 s.n0 s.c0, .slice s.q1 s.n1 s.c1, .slice s.q2 s.n2 s.c2, .slice s.q3 s.n3 s.c3, .slice s.q4 s.n4 s.c4] 30)) := row_on (heap_new w _) ((Below.refl _ _).alloc (Nat.le_refl _) _)
  have HQ0 : Hid (((w.alloc (.cells #[.slice s.q0 s.n0 s.c0, .slice s.q1 s.n1 s.c1, .slice s.q2 s.n2 s.c2, .slice s.q3 s.n3 s.c3, .slice s.q4 s.n4 s.c4] 30)).alloc (.cells #[.slice u.q0 u.n0 u.c0, .slice u.q1 u.n1 u.c1, .slice u.q2 u.n2 u.c2, .slice u.q3 u.n3 u.c3, .slice u.q4 u.n4 u.c4] 30)).heap[w.heap.size + 1]? = some (.cells #[.slice u.q0 u.n0 u.c0, .slice u.q1 u.n1 u.c1, .slice u.q2 u.n2 u.c2, .slice u.q3 u.n3 u.c3, .slice u.q4 u.n4 u.c4] 30)) := by
    have h1 := heap_new (w.alloc (.cells #[.slice s.q0 s.n0 s.c0, .slice s.q1 s.n1 s.c1, .slice s.q2 s.n2 s.c2, .slice s.q3 s.n3 s.c3, .slice s.q4 s.n4 s.c4] 30)) (.cells #[.slice u.q0 u.n0 u.c0, .slice u.q1 u.n1 u.c1, .slice u.q2 u.n2 u.c2, .slice u.q3 u.n3 u.c3, .slice u.q4 u.n4 u.c4] 30)
    have e1 : (w.alloc (.cells #[.slice s.q0 s.n0 s.c0, .slice s.q1 s.n1 s.c1, .slice s.q2 s.n2 s.c2, .slice s.q3 s.n3 s.c3, .slice s.q4 s.n4 s.c4] 30)).heap.size = w.heap.size + 1 := by simp
    rw [e1] at h1
    exact h1
  obtain ⟨m0, e0⟩ : ∃ m, u.n0 = m := ⟨_, rfl⟩
  obtain ⟨m1, e1⟩ : ∃ m, u.n1 = m := ⟨_, rfl⟩
  obtain ⟨m2, e2⟩ : ∃ m, u.n2 = m := ⟨_, rfl⟩
  obtain ⟨m3, e3⟩ : ∃ m, u.n3 = m := ⟨_, rfl⟩
  obtain ⟨m4, e4⟩ : ∃ m, u.n4 = m := ⟨_, rfl⟩
  have f0 : m0 = s.n0 := by rw [← e0, ← h'.l0, h.l0]
  have f1 : m1 = s.n1 := by rw [← e1, ← h'.l1, h.l1]
  have f2 : m2 = s.n2 := by rw [← e2, ← h'.l2, h.l2]
  have f3 : m3 = s.n3 := by rw [← e3, ← h'.l3, h.l3]
  have f4 : m4 = s.n4 := by rw [← e4, ← h'.l4, h.l4]
  have E0 : Hid (u.n0 = s.n0) := e0.trans f0
  have E1 : Hid (u.n1 = s.n1) := e1.trans f1
  have E2 : Hid (u.n2 = s.n2) := e2.trans f2
  have E3 : Hid (u.n3 = s.n3) := e3.trans f3
  have E4 : Hid (u.n4 = s.n4) := e4.trans f4
  clear h h' hs f0 e0 m0 f1 e1 m1 f2 e2 m2 f3 e3 m3 f4 e4 m4
  unfold SetV
  rw [E0.out, E1.out, E2.out, E3.out, E4.out] at HQ0 HB0 HP0 ⊢
  go_enter Try.func70, Try.ntmps70
  go_wp2_with fail
  refine (R.eqIn11 s.q0 u.q0 X.R s.n0 s.c0 u.c0 HX.out.l0 HS.out.n0 _ (HX.out.r0.keep HB0.out (Nat.le_refl _)) (HY.out.r0.keep HB0.out (Nat.le_refl _))).mono ?_
  rintro e w1 ⟨rfl, hb⟩
  have HB1 : Hid (Below w.heap.size w w1) := bel_on (Nat.le_refl _) HB0.out hb
  have HP1 : Hid (w1.heap[w.heap.size]? = some (.cells #[.slice s.q0 s.n0 s.c0, .slice s.q1 s.n1 s.c1, .slice s.q2 s.n2 s.c2, .slice s.q3 s.n3 s.c3, .slice s.q4 s.n4 s.c4] 30)) := row_on HP0.out hb
  have HQ1 : Hid (w1.heap[w.heap.size + 1]? = some (.cells #[.slice u.q0 s.n0 u.c0, .slice u.q1 s.n1 u.c1, .slice u.q2 s.n2 u.c2, .slice u.q3 s.n3 u.c3, .slice u.q4 s.n4 u.c4] 30)) := row_on HQ0.out hb
  have p1 := boxO_cells HP1.out
  have q1 := boxO_cells HQ1.out
  clear hb HB0 HP0 HQ0 
  go_wp2_with fail
  refine (eqIn s.q1 u.q1 X.W s.n1 s.c1 u.c1 HX.out.l1 HS.out.n1 _ (HX.out.r1.keep HB1.out (Nat.le_refl _)) (HY.out.r1.keep HB1.out (Nat.le_refl _))).mono ?_
  rintro e w2 ⟨rfl, hb⟩
  have HB2 : Hid (Below w.heap.size w w2) := bel_on (Nat.le_refl _) HB1.out hb
  have HP2 : Hid (w2.heap[w.heap.size]? = some (.cells #[.slice s.q0 s.n0 s.c0, .slice s.q1 s.n1 s.c1, .slice s.q2 s.n2 s.c2, .slice s.q3 s.n3 s.c3, .slice s.q4 s.n4 s.c4] 30)) := row_on HP1.out hb
  have HQ2 : Hid (w2.heap[w.heap.size + 1]? = some (.cells #[.slice u.q0 s.n0 u.c0, .slice u.q1 s.n1 u.c1, .slice u.q2 s.n2 u.c2, .slice u.q3 s.n3 u.c3, .slice u.q4 s.n4 u.c4] 30)) := row_on HQ1.out hb
  have p2 := boxO_cells HP2.out
  have q2 := boxO_cells HQ2.out
  clear hb HB1 HP1 HQ1 p1 q1
  go_wp2_with fail
  refine (eqOs s.q2 u.q2 X.O s.n2 s.c2 u.c2 HX.out.l2 HS.out.n2 _ (HX.out.r2.keep HB2.out (Nat.le_refl _)) (HY.out.r2.keep HB2.out (Nat.le_refl _))).mono ?_
  rintro e w3 ⟨rfl, hb⟩
  have HB3 : Hid (Below w.heap.size w w3) := bel_on (Nat.le_refl _) HB2.out hb
  have HP3 : Hid (w3.heap[w.heap.size]? = some (.cells #[.slice s.q0 s.n0 s.c0, .slice s.q1 s.n1 s.c1, .slice s.q2 s.n2 s.c2, .slice s.q3 s.n3 s.c3, .slice s.q4 s.n4 s.c4] 30)) := row_on HP2.out hb
  have HQ3 : Hid (w3.heap[w.heap.size + 1]? = some (.cells #[.slice u.q0 s.n0 u.c0, .slice u.q1 s.n1 u.c1, .slice u.q2 s.n2 u.c2, .slice u.q3 s.n3 u.c3, .slice u.q4 s.n4 u.c4] 30)) := row_on HQ2.out hb
  have p3 := boxO_cells HP3.out
  have q3 := boxO_cells HQ3.out
  clear hb HB2 HP2 HQ2 p2 q2
  go_wp2_with fail
  refine (eqUs s.q3 u.q3 X.U s.n3 s.c3 u.c3 HX.out.l3 HS.out.n3 _ (HX.out.r3.keep HB3.out (Nat.le_refl _)) (HY.out.r3.keep HB3.out (Nat.le_refl _))).mono ?_
  rintro e w4 ⟨rfl, hb⟩
  have HB4 : Hid (Below w.heap.size w w4) := bel_on (Nat.le_refl _) HB3.out hb
  have HP4 : Hid (w4.heap[w.heap.size]? = some (.cells #[.slice s.q0 s.n0 s.c0, .slice s.q1 s.n1 s.c1, .slice s.q2 s.n2 s.c2, .slice s.q3 s.n3 s.c3, .slice s.q4 s.n4 s.c4] 30)) := row_on HP3.out hb
  have HQ4 : Hid (w4.heap[w.heap.size + 1]? = some (.cells #[.slice u.q0 s.n0 u.c0, .slice u.q1 s.n1 u.c1, .slice u.q2 s.n2 u.c2, .slice u.q3 s.n3 u.c3, .slice u.q4 s.n4 u.c4] 30)) := row_on HQ3.out hb
  have p4 := boxO_cells HP4.out
  have q4 := boxO_cells HQ4.out
  clear hb HB3 HP3 HQ3 p3 q3
  go_wp2_with fail
  refine (S.eqSs s.q4 u.q4 X.S s.n4 s.c4 u.c4 HX.out.l4 HS.out.n4 _ (HX.out.r4.keep HB4.out (Nat.le_refl _)) (HY.out.r4.keep HB4.out (Nat.le_refl _))).mono ?_
  rintro e w5 ⟨rfl, hb⟩
  have HB5 : Hid (Below w.heap.size w w5) := bel_on (Nat.le_refl _) HB4.out hb
  have HP5 : Hid (w5.heap[w.heap.size]? = some (.cells #[.slice s.q0 s.n0 s.c0, .slice s.q1 s.n1 s.c1, .slice s.q2 s.n2 s.c2, .slice s.q3 s.n3 s.c3, .slice s.q4 s.n4 s.c4] 30)) := row_on HP4.out hb
  have HQ5 : Hid (w5.heap[w.heap.size + 1]? = some (.cells #[.slice u.q0 s.n0 u.c0, .slice u.q1 s.n1 u.c1, .slice u.q2 s.n2 u.c2, .slice u.q3 s.n3 u.c3, .slice u.q4 s.n4 u.c4] 30)) := row_on HQ4.out hb
  have p5 := boxO_cells HP5.out
  have q5 := boxO_cells HQ5.out
  clear hb HB4 HP4 HQ4 p4 q4
  go_wp2
  go_ret
  exact ⟨rfl, HB5.out⟩
end Go.Proofs.Ytfdhcchakoldpaa
