/-
  A set-up as a whole: read, sized, copied, compared.
-/
import Derived.Test.YtadbekhekggpkaaGreatDoorLst11
import Derived.Test.YtadbekhekggpkaaGreatDoorStr11
import Derived.Test.YtadbekhekggpkaaGreatDoorRegE
namespace Go.Proofs.YtadbekhekggpkaaGreatDoor
open Go.ChangeShapes Go.WideShapes Go.ChangeAt Go.RowKit Go.PlainAid
set_option linter.unusedVariables false

/-- where the five lists of a set-up lie -/
structure SH where
  q0 : Option Addr
  n0 : Nat
  c0 : Nat
  q1 : Option Addr
  n1 : Nat
  c1 : Nat
  q2 : Option Addr
  n2 : Nat
  c2 : Nat
  q3 : Option Addr
  n3 : Nat
  c3 : Nat
  q4 : Option Addr
  n4 : Nat
  c4 : Nat
/-- what they hold -/
structure SX where
  R : List (Int × Int)
  W : List (Int × Int)
  O : List Prt
  U : List Rule
  S : List ByteArray
def SetV (s : SH) : Value := .agg #[.slice s.q0 s.n0 s.c0, .slice s.q1 s.n1 s.c1, .slice s.q2 s.n2 s.c2, .slice s.q3 s.n3 s.c3, .slice s.q4 s.n4 s.c4]
/-- a set-up that is read, wherever it lies -/
structure RdX (w : World) (s : SH) (X : SX) : Prop where
  l0 : X.R.length = s.n0
  r0 : R.RdR w s.q0 X.R
  l1 : X.W.length = s.n1
  r1 : RdR w s.q1 X.W
  l2 : X.O.length = s.n2
  r2 : RdO w s.q2 X.O
  l3 : X.U.length = s.n3
  r3 : RdU w s.q3 X.U
  l4 : X.S.length = s.n4
  r4 : S.RdS w s.q4 X.S
theorem RdX.on {w w' : World} {s : SH} {X : SX} (h : RdX w s X) (hb : Below w.heap.size w w') : RdX w' s X :=
  ⟨h.l0, h.r0.keep hb (Nat.le_refl _), h.l1, h.r1.keep hb (Nat.le_refl _), h.l2, h.r2.keep hb (Nat.le_refl _), h.l3, h.r3.keep hb (Nat.le_refl _), h.l4, h.r4.keep hb (Nat.le_refl _)⟩
/-- no list, no text of it is longer than Go has numbers for -/
structure LimX (s : SH) (X : SX) : Prop where
  n0 : s.n0 ≤ 9223372036854775807
  n1 : s.n1 ≤ 9223372036854775807
  n2 : s.n2 ≤ 9223372036854775807
  n3 : s.n3 ≤ 9223372036854775807
  n4 : s.n4 ≤ 9223372036854775807
  z : ∀ j (h : j < X.S.length), (X.S[j]).size ≤ 9223372036854775807
/-- .. than the laws ask -/
structure SmX (s : SH) (X : SX) : Prop where
  n0 : s.n0 ≤ 1048576
  n1 : s.n1 ≤ 1048576
  n2 : s.n2 ≤ 1048576
  n3 : s.n3 ≤ 1048576
  n4 : s.n4 ≤ 1048576
  b : S.bytesS X.S ≤ 1048576

theorem set_row5 {w : World} {k : Nat} {T : TypeId} {a : Array Value} (h : w.heap[k]? = some (.cells a T)) (i : Nat) (x : Value) : (w.setCell ⟨k, i, none⟩ x).heap[k]? = some (.cells (a.setIfInBounds i x) T) := heap_setCell_same w k i _ _ x h
theorem set_far {w : World} {k g i : Nat} {o : Obj} {x : Value} (h : w.heap[g]? = some o) (hne : g ≠ k) : (w.setCell ⟨k, i, none⟩ x).heap[g]? = some o := (Below.heap_setCell _ _ _ _ hne).trans h
theorem set_far5 {w : World} {k g : Nat} {o : Obj} {a b c d e : Value} (h : w.heap[g]? = some o) (hne : g ≠ k) : (((((w.setCell ⟨k, 0, none⟩ a).setCell ⟨k, 1, none⟩ b).setCell ⟨k, 2, none⟩ c).setCell ⟨k, 3, none⟩ d).setCell ⟨k, 4, none⟩ e).heap[g]? = some o := set_far (set_far (set_far (set_far (set_far h hne) hne) hne) hne) hne
set_option maxRecDepth 100000 in
set_option maxHeartbeats 4000000 in
theorem eqSet (s u : SH) (X : SX) (w : World) (h : RdX w s X) (h' : RdX w u X) (hs : SmX s X) :
    Calls Tryz.prog 13 #[SetV s, SetV u] w fun e w' => e = .returned (.bool true) ∧ Below w.heap.size w w' := by
  have HX : Hid (RdX w s X) := h
  have HY : Hid (RdX w u X) := h'
  have HS : Hid (SmX s X) := hs
  have HB0 : Hid (Below w.heap.size w ((w.alloc (.cells #[.slice s.q0 s.n0 s.c0, .slice s.q1 s.n1 s.c1, .slice s.q2 s.n2 s.c2, .slice s.q3 s.n3 s.c3, .slice s.q4 s.n4 s.c4] 30)).alloc (.cells #[.slice u.q0 u.n0 u.c0, .slice u.q1 u.n1 u.c1, .slice u.q2 u.n2 u.c2, .slice u.q3 u.n3 u.c3, .slice u.q4 u.n4 u.c4] 30))) := ((Below.refl _ _).alloc (Nat.le_refl _) _).alloc (by simp) _
  have HP0 : Hid (((w.alloc (.cells #[.slice s.q0 s.n0 s.c0, .slice s.q1 s.n1 s.c1, .slice s.q2 s.n2 s.c2, .slice s.q3 s.n3 s.c3, .slice s.q4 s.n4 s.c4] 30)).alloc (.cells #[.slice u.q0 u.n0 u.c0, .slice u.q1 u.n1 u.c1, .slice u.q2 u.n2 u.c2, .slice u.q3 u.n3 u.c3, .slice u.q4 u.n4 u.c4] 30)).heap[w.heap.size]? = some (.cells #[.slice s.q0 s.n0 s.c0, .slice s.q1 s.n1 s.c1, .slice s.q2 s.n2 s.c2, .slice s.q3 s.n3 s.c3, .slice s.q4 s.n4 s.c4] 30)) := row_on (heap_new w _) ((Below.refl _ _).alloc (Nat.le_refl _) _)
  have HQ0 : Hid (((w.alloc (.cells #[.slice s.q0 s.n0 s.c0, .slice s.q1 s.n1 s.c1, .slice s.q2 s.n2 s.c2, .slice s.q3 s.n3 s.c3, .slice s.q4 s.n4 s.c4] 30)).alloc (.cells #[.slice u.q0 u.n0 u.c0, .slice u.q1 u.n1 u.c1, .slice u.q2 u.n2 u.c2, .slice u.q3 u.n3 u.c3, .slice u.q4 u.n4 u.c4] 30)).heap[w.heap.size + 1]? = some (.cells #[.slice u.q0 u.n0 u.c0, .slice u.q1 u.n1 u.c1, .slice u.q2 u.n2 u.c2, .slice u.q3 u.n3 u.c3, .slice u.q4 u.n4 u.c4] 30)) := by
    have h1 := heap_new (w.alloc (.cells #[.slice s.q0 s.n0 s.c0, .slice s.q1 s.n1 s.c1, .slice s.q2 s.n2 s.c2, .slice s.q3 s.n3 s.c3, .slice s.q4 s.n4 s.c4] 30)) (.cells #[.slice u.q0 u.n0 u.c0, .slice u.q1 u.n1 u.c1, .slice u.q2 u.n2 u.c2, .slice u.q3 u.n3 u.c3, .slice u.q4 u.n4 u.c4] 30)
    have e1 : (w.alloc (.cells #[.slice s.q0 s.n0 s.c0, .slice s.q1 s.n1 s.c1, .slice s.q2 s.n2 s.c2, .slice s.q3 s.n3 s.c3, .slice s.q4 s.n4 s.c4] 30)).heap.size = w.heap.size + 1 := by simp
    rw [e1] at h1
    exact h1
  obtain ⟨m0, e0⟩ : ∃ m, u.n0 = m := ⟨_, rfl⟩
  obtain ⟨m1, e1⟩ : ∃ m, u.n1 = m := ⟨_, rfl⟩
  obtain ⟨m2, e2⟩ : ∃ m, u.n2 = m := ⟨_, rfl⟩
  obtain ⟨m3, e3⟩ : ∃ m, u.n3 = m := ⟨_, rfl⟩
  obtain ⟨m4, e4⟩ : ∃ m, u.n4 = m := ⟨_, rfl⟩
  have f0 : m0 = s.n0 := by rw [← e0, ← h'.l0, h.l0]
  have f1 : m1 = s.n1 := by rw [← e1, ← h'.l1, h.l1]
  have f2 : m2 = s.n2 := by rw [← e2, ← h'.l2, h.l2]
  have f3 : m3 = s.n3 := by rw [← e3, ← h'.l3, h.l3]
  have f4 : m4 = s.n4 := by rw [← e4, ← h'.l4, h.l4]
  have E0 : Hid (u.n0 = s.n0) := e0.trans f0
  have E1 : Hid (u.n1 = s.n1) := e1.trans f1
  have E2 : Hid (u.n2 = s.n2) := e2.trans f2
  have E3 : Hid (u.n3 = s.n3) := e3.trans f3
  have E4 : Hid (u.n4 = s.n4) := e4.trans f4
  clear h h' hs f0 e0 m0 f1 e1 m1 f2 e2 m2 f3 e3 m3 f4 e4 m4
  unfold SetV
  rw [E0.out, E1.out, E2.out, E3.out, E4.out] at HQ0 HB0 HP0 ⊢
  go_enter Tryz.func13, Tryz.ntmps13
  go_wp2_with fail
  refine (R.eqIn11 s.q0 u.q0 X.R s.n0 s.c0 u.c0 HX.out.l0 HS.out.n0 _ (HX.out.r0.keep HB0.out (Nat.le_refl _)) (HY.out.r0.keep HB0.out (Nat.le_refl _))).mono ?_
  rintro e w1 ⟨rfl, hb⟩
  have HB1 : Hid (Below w.heap.size w w1) := bel_on (Nat.le_refl _) HB0.out hb
  have HP1 : Hid (w1.heap[w.heap.size]? = some (.cells #[.slice s.q0 s.n0 s.c0, .slice s.q1 s.n1 s.c1, .slice s.q2 s.n2 s.c2, .slice s.q3 s.n3 s.c3, .slice s.q4 s.n4 s.c4] 30)) := row_on HP0.out hb
  have HQ1 : Hid (w1.heap[w.heap.size + 1]? = some (.cells #[.slice u.q0 s.n0 u.c0, .slice u.q1 s.n1 u.c1, .slice u.q2 s.n2 u.c2, .slice u.q3 s.n3 u.c3, .slice u.q4 s.n4 u.c4] 30)) := row_on HQ0.out hb
  have p1 := boxO_cells HP1.out
  have q1 := boxO_cells HQ1.out
  clear hb HB0 HP0 HQ0 
  go_wp2_with fail
  refine (eqIn s.q1 u.q1 X.W s.n1 s.c1 u.c1 HX.out.l1 HS.out.n1 _ (HX.out.r1.keep HB1.out (Nat.le_refl _)) (HY.out.r1.keep HB1.out (Nat.le_refl _))).mono ?_
  rintro e w2 ⟨rfl, hb⟩
  have HB2 : Hid (Below w.heap.size w w2) := bel_on (Nat.le_refl _) HB1.out hb
  have HP2 : Hid (w2.heap[w.heap.size]? = some (.cells #[.slice s.q0 s.n0 s.c0, .slice s.q1 s.n1 s.c1, .slice s.q2 s.n2 s.c2, .slice s.q3 s.n3 s.c3, .slice s.q4 s.n4 s.c4] 30)) := row_on HP1.out hb
  have HQ2 : Hid (w2.heap[w.heap.size + 1]? = some (.cells #[.slice u.q0 s.n0 u.c0, .slice u.q1 s.n1 u.c1, .slice u.q2 s.n2 u.c2, .slice u.q3 s.n3 u.c3, .slice u.q4 s.n4 u.c4] 30)) := row_on HQ1.out hb
  have p2 := boxO_cells HP2.out
  have q2 := boxO_cells HQ2.out
  clear hb HB1 HP1 HQ1 p1 q1
  go_wp2_with fail
  refine (eqOs s.q2 u.q2 X.O s.n2 s.c2 u.c2 HX.out.l2 HS.out.n2 _ (HX.out.r2.keep HB2.out (Nat.le_refl _)) (HY.out.r2.keep HB2.out (Nat.le_refl _))).mono ?_
  rintro e w3 ⟨rfl, hb⟩
  have HB3 : Hid (Below w.heap.size w w3) := bel_on (Nat.le_refl _) HB2.out hb
  have HP3 : Hid (w3.heap[w.heap.size]? = some (.cells #[.slice s.q0 s.n0 s.c0, .slice s.q1 s.n1 s.c1, .slice s.q2 s.n2 s.c2, .slice s.q3 s.n3 s.c3, .slice s.q4 s.n4 s.c4] 30)) := row_on HP2.out hb
  have HQ3 : Hid (w3.heap[w.heap.size + 1]? = some (.cells #[.slice u.q0 s.n0 u.c0, .slice u.q1 s.n1 u.c1, .slice u.q2 s.n2 u.c2, .slice u.q3 s.n3 u.c3, .slice u.q4 s.n4 u.c4] 30)) := row_on HQ2.out hb
  have p3 := boxO_cells HP3.out
  have q3 := boxO_cells HQ3.out
  clear hb HB2 HP2 HQ2 p2 q2
  go_wp2_with fail
  refine (eqUs s.q3 u.q3 X.U s.n3 s.c3 u.c3 HX.out.l3 HS.out.n3 _ (HX.out.r3.keep HB3.out (Nat.le_refl _)) (HY.out.r3.keep HB3.out (Nat.le_refl _))).mono ?_
  rintro e w4 ⟨rfl, hb⟩
  have HB4 : Hid (Below w.heap.size w w4) := bel_on (Nat.le_refl _) HB3.out hb
  have HP4 : Hid (w4.heap[w.heap.size]? = some (.cells #[.slice s.q0 s.n0 s.c0, .slice s.q1 s.n1 s.c1, .slice s.q2 s.n2 s.c2, .slice s.q3 s.n3 s.c3, .slice s.q4 s.n4 s.c4] 30)) := row_on HP3.out hb
  have HQ4 : Hid (w4.heap[w.heap.size + 1]? = some (.cells #[.slice u.q0 s.n0 u.c0, .slice u.q1 s.n1 u.c1, .slice u.q2 s.n2 u.c2, .slice u.q3 s.n3 u.c3, .slice u.q4 s.n4 u.c4] 30)) := row_on HQ3.out hb
  have p4 := boxO_cells HP4.out
  have q4 := boxO_cells HQ4.out
  clear hb HB3 HP3 HQ3 p3 q3
  go_wp2_with fail
  refine (S.eqSs s.q4 u.q4 X.S s.n4 s.c4 u.c4 HX.out.l4 HS.out.n4 _ (HX.out.r4.keep HB4.out (Nat.le_refl _)) (HY.out.r4.keep HB4.out (Nat.le_refl _))).mono ?_
  rintro e w5 ⟨rfl, hb⟩
  have HB5 : Hid (Below w.heap.size w w5) := bel_on (Nat.le_refl _) HB4.out hb
  have HP5 : Hid (w5.heap[w.heap.size]? = some (.cells #[.slice s.q0 s.n0 s.c0, .slice s.q1 s.n1 s.c1, .slice s.q2 s.n2 s.c2, .slice s.q3 s.n3 s.c3, .slice s.q4 s.n4 s.c4] 30)) := row_on HP4.out hb
  have HQ5 : Hid (w5.heap[w.heap.size + 1]? = some (.cells #[.slice u.q0 s.n0 u.c0, .slice u.q1 s.n1 u.c1, .slice u.q2 s.n2 u.c2, .slice u.q3 s.n3 u.c3, .slice u.q4 s.n4 u.c4] 30)) := row_on HQ4.out hb
  have p5 := boxO_cells HP5.out
  have q5 := boxO_cells HQ5.out
  clear hb HB4 HP4 HQ4 p4 q4
  go_wp2
  go_ret
  exact ⟨rfl, HB5.out⟩
end Go.Proofs.YtadbekhekggpkaaGreatDoor
