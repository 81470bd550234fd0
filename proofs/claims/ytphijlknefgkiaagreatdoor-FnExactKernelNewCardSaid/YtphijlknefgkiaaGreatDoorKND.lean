/-
  The handle of the type 'error' that errors.errorType holds, out of the row's list; a world that holds it, for the witness.
-/
import Derived.Test.YtphijlknefgkiaaGreatDoorAsX
import Derived.Test.YtphijlknefgkiaaGreatDoorRows
import Derived.Lib.LaidTab
import Derived.OpenShut
import Derived.LaidHandle
import Derived.LaidLaws
import Derived.Stop.Joined
import Derived.Test.YtphijlknefgkiaaGreatDoorSet11
import Derived.Test.YtphijlknefgkiaaGreatDoorKNC
import Derived.Test.YtphijlknefgkiaaGreatDoorKNB
import Derived.Test.YtphijlknefgkiaaGreatDoorSetO11
namespace Go.Proofs.YtphijlknefgkiaaGreatDoor
open Go.ChangeShapes Go.WideShapes Go.ChangeAt Go.RowKit

theorem h_et : Tryz.prog.globalNamed "errors.errorType" = some 0 := by kernel_rfl
theorem h_oneRow : ((List.range 222).filter fun t => Tryz.prog.rowNamed t [101, 114, 114, 111, 114]) = [111] := by kernel_rfl
theorem h_size : Tryz.prog.types.size = 222 := by kernel_rfl
theorem handle_of {W : World} (h : laidMetH Tryz.prog [("errors.errorType", Rows.laid_errors_errorType)] W) : Hnd W := by
  have h' : laidMet Tryz.prog [] W ∧ handlesMet Tryz.prog [("errors.errorType", Rows.laid_errors_errorType)] W := h
  obtain ⟨name, u, ty, e1, e2, e3, e4, e5⟩ := h'.2 _ (List.mem_singleton.2 rfl)
  have en : name = [101, 114, 114, 111, 114] := (Option.some.inj e1).symm
  subst en
  have hu : some u = some 161 := e2.symm.trans (by kernel_rfl)
  obtain rfl := (Option.some.inj hu).symm
  have hm : ty ∈ (List.range 222).filter fun t => Tryz.prog.rowNamed t [101, 114, 114, 111, 114] := List.mem_filter.2 ⟨List.mem_range.2 (by rw [← h_size]; exact e3), e4⟩
  rw [h_oneRow] at hm
  obtain rfl := List.mem_singleton.1 hm
  have hh : typeHandle Tryz.prog 111 = .pointer (some ⟨1, 111, none⟩) := by kernel_rfl
  rw [hh] at e5
  show W.cell? _ = _
  simpa using World.var?_cell h_et e5 0
def setRowH (cs : Array Value) : Obj → Obj
  | .cells _ t frozen => .cells cs t frozen
  | o => o
/-- a world whose variable holds the handle -/
def layH (w : World) : World := { w with heap := w.heap.modify 0 (setRowH #[.iface 161 (.agg #[.pointer (some ⟨1, 111, none⟩)])]) }
end Go.Proofs.YtphijlknefgkiaaGreatDoor

namespace Go.Proofs.YtphijlknefgkiaaGreatDoor
open Go.RowKit Go.PlainAid
set_option linter.unusedVariables false

structure LW (w W : World) (kA kB : Nat) (oA oB : Obj) (s : SH) (X : SX) : Prop where
  b : Below w.heap.size w W
  a : W.heap[kA]? = some oA
  bb : W.heap[kB]? = some oB
  x : RdX W s X
theorem LW.on' {w W W' : World} {kA kB : Nat} {oA oB : Obj} {s : SH} {X : SX} (hb : Below W.heap.size W W') (h : LW w W kA kB oA oB s X) : LW w W' kA kB oA oB s X :=
  ⟨bel_on (Nat.le_refl _) h.b hb, row_on h.a hb, row_on h.bb hb, h.x.on hb⟩
theorem LW.drew {w W : World} {kA kB : Nat} {oA oB : Obj} {s : SH} {X : SX} (h : LW w W kA kB oA oB s X) : LW w W.drew kA kB oA oB s X :=
  h.on' ((Below.refl _ _).drew)
theorem lw_conj {w W : World} {kA kB : Nat} {tA tB : TypeId} {x0 x1 x2 x3 x4 y0 y1 y2 y3 y4 : Value} {s : SH} {X : SX} (h : LW w W kA kB (.cells #[x0, x1, x2, x3, x4] tA) (.cells #[y0, y1, y2, y3, y4] tB) s X) : W.cell? ⟨kA, 0, none⟩ = some x0 ∧ W.cell? ⟨kA, 1, none⟩ = some x1 ∧ W.cell? ⟨kA, 2, none⟩ = some x2 ∧ W.cell? ⟨kA, 3, none⟩ = some x3 ∧ W.cell? ⟨kA, 4, none⟩ = some x4 ∧ W.cell? ⟨kB, 0, none⟩ = some y0 ∧ W.cell? ⟨kB, 1, none⟩ = some y1 ∧ W.cell? ⟨kB, 2, none⟩ = some y2 ∧ W.cell? ⟨kB, 3, none⟩ = some y3 ∧ W.cell? ⟨kB, 4, none⟩ = some y4 ∧ LW w W kA kB (.cells #[x0, x1, x2, x3, x4] tA) (.cells #[y0, y1, y2, y3, y4] tB) s X := by
  have h1 := boxO_cells h.a
  have h2 := boxO_cells h.bb
  exact ⟨h1.1.1, h1.1.2.1, h1.1.2.2.1, h1.1.2.2.2.1, h1.1.2.2.2.2, h2.1.1, h2.1.2.1, h2.1.2.2.1, h2.1.2.2.2.1, h2.1.2.2.2.2, h⟩
theorem lw_of {w W : World} {kA kB : Nat} {oA oB : Obj} {s : SH} {X : SX} {P0 P1 P2 P3 P4 P5 P6 P7 P8 P9 : Prop} (h : P0 ∧ P1 ∧ P2 ∧ P3 ∧ P4 ∧ P5 ∧ P6 ∧ P7 ∧ P8 ∧ P9 ∧ LW w W kA kB oA oB s X) : LW w W kA kB oA oB s X := h.2.2.2.2.2.2.2.2.2.2
end Go.Proofs.YtphijlknefgkiaaGreatDoor

namespace Go.Proofs.YtphijlknefgkiaaGreatDoor.fnExactKernelNew
open Go.ChangeShapes Go.WideShapes Go.ChangeAt Go.RowKit Go.PlainAid
set_option linter.unusedVariables false

theorem sm_of {w w' : World} {s s' : SH} {X : SX} (h : SmX s X) (hr : RdX w s X) (hr' : RdX w' s' X) : SmX s' X :=
  ⟨by rw [← hr'.l0, hr.l0]; exact h.n0, by rw [← hr'.l1, hr.l1]; exact h.n1, by rw [← hr'.l2, hr.l2]; exact h.n2, by rw [← hr'.l3, hr.l3]; exact h.n3, by rw [← hr'.l4, hr.l4]; exact h.n4, h.b⟩
set_option maxRecDepth 100000 in
set_option maxHeartbeats 8000000 in
theorem walk (s : SH) (X : SX) (w : World) (h : IsSet w s X) (hg : Hnd w) :
    Calls Tryz.prog 3 #[SetV s] w fun e w' => e = .returned (.bool true) ∧ Below w.heap.size w w' := by
  obtain ⟨q0, n0, c0, q1, n1, c1, q2, n2, c2, q3, n3, c3, q4, n4, c4⟩ := s
  have HX : Hid (IsSet w ⟨q0, n0, c0, q1, n1, c1, q2, n2, c2, q3, n3, c3, q4, n4, c4⟩ X) := h
  have HG : Hid (Hnd w) := hg
  obtain ⟨f, hf⟩ := fault_ex X
  have HF : Hid (FaultX X f) := hf
  have HWa : Hid (Below w.heap.size w (w.alloc (.cells #[.slice q0 n0 c0, .slice q1 n1 c1, .slice q2 n2 c2, .slice q3 n3 c3, .slice q4 n4 c4] 28))) := (Below.refl _ _).alloc (Nat.le_refl _) _
  have HAa : Hid ((w.alloc (.cells #[.slice q0 n0 c0, .slice q1 n1 c1, .slice q2 n2 c2, .slice q3 n3 c3, .slice q4 n4 c4] 28)).heap[w.heap.size]? = some (.cells #[.slice q0 n0 c0, .slice q1 n1 c1, .slice q2 n2 c2, .slice q3 n3 c3, .slice q4 n4 c4] 28)) := heap_new w _
  clear h hg hf
  unfold SetV
  dsimp only
  go_enter Tryz.func3, Tryz.ntmps3
  have kAa := boxO_cells HAa.out
  go_wp2_with fail
  refine (szSet ⟨q0, n0, c0, q1, n1, c1, q2, n2, c2, q3, n3, c3, q4, n4, c4⟩ X _ (HX.out.rd.keep HWa.out (Nat.le_refl _)) HX.out.lim).mono ?_
  rintro e w0 ⟨r0, rfl, hr, hb0⟩
  have HW0 : Hid (Below w.heap.size w w0) := bel_on (Nat.le_refl _) HWa.out hb0
  have HA0 : Hid (w0.heap[w.heap.size]? = some (.cells #[.slice q0 n0 c0, .slice q1 n1 c1, .slice q2 n2 c2, .slice q3 n3 c3, .slice q4 n4 c4] 28)) := row_on HAa.out hb0
  clear HWa HAa
  clear kAa
  have kA0 := boxO_cells HA0.out
  clear hb0
  rcases hr with rfl | ⟨hr0, hs⟩
  · go_wp2
    go_ret
    exact ⟨rfl, HW0.out⟩
  have HS : Hid (SmX ⟨q0, n0, c0, q1, n1, c1, q2, n2, c2, q3, n3, c3, q4, n4, c4⟩ X) := hs
  have hr1 : ¬ r0 < 0 := by omega
  clear hs hr0
  go_wp2_with fail
  refine (toSetR ⟨q0, n0, c0, q1, n1, c1, q2, n2, c2, q3, n3, c3, q4, n4, c4⟩ X _ (HX.out.rd.keep HW0.out (Nat.le_refl _)) HS.out).mono ?_
  rintro e w1 ⟨s1, rfl, hrd1, hb1⟩
  have HR1 : Hid (RwX w1 _ s1 X) := hrd1
  have HS1 : Hid (SmX s1 X) := sm_of HS.out HX.out.rd hrd1.rd
  have HW1 : Hid (Below w.heap.size w w1) := bel_on (Nat.le_refl _) HW0.out hb1
  have HA1 : Hid (w1.heap[w.heap.size]? = some (.cells #[.slice q0 n0 c0, .slice q1 n1 c1, .slice q2 n2 c2, .slice q3 n3 c3, .slice q4 n4 c4] 28)) := row_on HA0.out hb1
  clear HW0 HA0
  clear kA0
  have kA1 := boxO_cells HA1.out
  clear hb1 hrd1 hr1
  go_wp2_with fail
  refine (newS s1 X _ f HF.out _ HR1.out HS1.out HX.out.wf).mono ?_
  rintro e w2 ⟨kS, rfl, hrk, hb2⟩
  have HRS : Hid (RdK w2 kS (kOf f X)) := hrk
  have HMS : Hid (SmK kS (kOf f X)) := smK_of HS.out HX.out.rd hrk
  have HW2 : Hid (Below w.heap.size w w2) := bel_on (Nat.le_refl _) HW1.out hb2
  have HA2 : Hid (w2.heap[w.heap.size]? = some (.cells #[.slice q0 n0 c0, .slice q1 n1 c1, .slice q2 n2 c2, .slice q3 n3 c3, .slice q4 n4 c4] 28)) := row_on HA1.out hb2
  clear HW1 HA1
  clear kA1
  clear hb2 hrk HR1 HS1
  obtain ⟨g4, hg4⟩ : ∃ g, w2.heap.size = g := ⟨_, rfl⟩
  have hal : Below w2.heap.size w2 (w2.alloc (.cells #[.slice kS.s.q0 kS.s.n0 kS.s.c0, .slice kS.s.q1 kS.s.n1 kS.s.c1, .slice kS.s.q2 kS.s.n2 kS.s.c2, .slice kS.s.q3 kS.s.n3 kS.s.c3, .slice kS.s.q4 kS.s.n4 kS.s.c4, .slice kS.qA (kOf f X).A.length kS.cA, .slice kS.qP (kOf f X).P.length kS.cP, .slice kS.qL (kOf f X).L.length kS.cL, .slice kS.qO (kOf f X).O.length kS.cO, .int .i64 (kOf f X).tu, .bool (kOf f X).sp, .slice kS.qE (kOf f X).E.length kS.cE] 43)) := al1_k _ _
  have HW2b : Hid (Below w.heap.size w (w2.alloc (.cells #[.slice kS.s.q0 kS.s.n0 kS.s.c0, .slice kS.s.q1 kS.s.n1 kS.s.c1, .slice kS.s.q2 kS.s.n2 kS.s.c2, .slice kS.s.q3 kS.s.n3 kS.s.c3, .slice kS.s.q4 kS.s.n4 kS.s.c4, .slice kS.qA (kOf f X).A.length kS.cA, .slice kS.qP (kOf f X).P.length kS.cP, .slice kS.qL (kOf f X).L.length kS.cL, .slice kS.qO (kOf f X).O.length kS.cO, .int .i64 (kOf f X).tu, .bool (kOf f X).sp, .slice kS.qE (kOf f X).E.length kS.cE] 43))) := bel_on (Nat.le_refl _) HW2.out hal
  have HA2b : Hid ((w2.alloc (.cells #[.slice kS.s.q0 kS.s.n0 kS.s.c0, .slice kS.s.q1 kS.s.n1 kS.s.c1, .slice kS.s.q2 kS.s.n2 kS.s.c2, .slice kS.s.q3 kS.s.n3 kS.s.c3, .slice kS.s.q4 kS.s.n4 kS.s.c4, .slice kS.qA (kOf f X).A.length kS.cA, .slice kS.qP (kOf f X).P.length kS.cP, .slice kS.qL (kOf f X).L.length kS.cL, .slice kS.qO (kOf f X).O.length kS.cO, .int .i64 (kOf f X).tu, .bool (kOf f X).sp, .slice kS.qE (kOf f X).E.length kS.cE] 43)).heap[w.heap.size]? = some (.cells #[.slice q0 n0 c0, .slice q1 n1 c1, .slice q2 n2 c2, .slice q3 n3 c3, .slice q4 n4 c4] 28)) := row_on HA2.out hal
  clear HW2 HA2
  have H42b : Hid ((w2.alloc (.cells #[.slice kS.s.q0 kS.s.n0 kS.s.c0, .slice kS.s.q1 kS.s.n1 kS.s.c1, .slice kS.s.q2 kS.s.n2 kS.s.c2, .slice kS.s.q3 kS.s.n3 kS.s.c3, .slice kS.s.q4 kS.s.n4 kS.s.c4, .slice kS.qA (kOf f X).A.length kS.cA, .slice kS.qP (kOf f X).P.length kS.cP, .slice kS.qL (kOf f X).L.length kS.cL, .slice kS.qO (kOf f X).O.length kS.cO, .int .i64 (kOf f X).tu, .bool (kOf f X).sp, .slice kS.qE (kOf f X).E.length kS.cE] 43)).heap[g4]? = some (.cells #[.slice kS.s.q0 kS.s.n0 kS.s.c0, .slice kS.s.q1 kS.s.n1 kS.s.c1, .slice kS.s.q2 kS.s.n2 kS.s.c2, .slice kS.s.q3 kS.s.n3 kS.s.c3, .slice kS.s.q4 kS.s.n4 kS.s.c4, .slice kS.qA (kOf f X).A.length kS.cA, .slice kS.qP (kOf f X).P.length kS.cP, .slice kS.qL (kOf f X).L.length kS.cL, .slice kS.qO (kOf f X).O.length kS.cO, .int .i64 (kOf f X).tu, .bool (kOf f X).sp, .slice kS.qE (kOf f X).E.length kS.cE] 43)) := by rw [← hg4]; exact heap_new w2 _
  have HS2b : Hid (Below w2.heap.size w2 (w2.alloc (.cells #[.slice kS.s.q0 kS.s.n0 kS.s.c0, .slice kS.s.q1 kS.s.n1 kS.s.c1, .slice kS.s.q2 kS.s.n2 kS.s.c2, .slice kS.s.q3 kS.s.n3 kS.s.c3, .slice kS.s.q4 kS.s.n4 kS.s.c4, .slice kS.qA (kOf f X).A.length kS.cA, .slice kS.qP (kOf f X).P.length kS.cP, .slice kS.qL (kOf f X).L.length kS.cL, .slice kS.qO (kOf f X).O.length kS.cO, .int .i64 (kOf f X).tu, .bool (kOf f X).sp, .slice kS.qE (kOf f X).E.length kS.cE] 43))) := hal
  clear hal
  have kA2b := boxO_cells HA2b.out
  have k42b := box12_cells H42b.out
  unfold KerV
  try dsimp only
  go_wp2_with fail
  try rw [hg4]
  refine (toSetR ⟨q0, n0, c0, q1, n1, c1, q2, n2, c2, q3, n3, c3, q4, n4, c4⟩ X _ (HX.out.rd.keep HW2b.out (Nat.le_refl _)) HS.out).mono ?_
  rintro e w3 ⟨s4, rfl, hrd3, hb3⟩
  obtain ⟨lo6, hlo6⟩ : ∃ g, (w2.alloc (.cells #[.slice kS.s.q0 kS.s.n0 kS.s.c0, .slice kS.s.q1 kS.s.n1 kS.s.c1, .slice kS.s.q2 kS.s.n2 kS.s.c2, .slice kS.s.q3 kS.s.n3 kS.s.c3, .slice kS.s.q4 kS.s.n4 kS.s.c4, .slice kS.qA (kOf f X).A.length kS.cA, .slice kS.qP (kOf f X).P.length kS.cP, .slice kS.qL (kOf f X).L.length kS.cL, .slice kS.qO (kOf f X).O.length kS.cO, .int .i64 (kOf f X).tu, .bool (kOf f X).sp, .slice kS.qE (kOf f X).E.length kS.cE] 43)).heap.size = g := ⟨_, rfl⟩
  have h46 : g4 < lo6 := by rw [← hlo6]; exact row_lt H42b.out
  have hA6 : w.heap.size < lo6 := by rw [← hlo6]; exact row_lt HA2b.out
  have h26 : w2.heap.size ≤ lo6 := by rw [← hlo6]; exact HS2b.out.size
  rw [hlo6] at hrd3
  have HS4 : Hid (SmX s4 X) := sm_of HS.out HX.out.rd hrd3.rd
  have HW3 : Hid (Below w.heap.size w w3) := bel_on (Nat.le_refl _) HW2b.out hb3
  have HA3 : Hid (w3.heap[w.heap.size]? = some (.cells #[.slice q0 n0 c0, .slice q1 n1 c1, .slice q2 n2 c2, .slice q3 n3 c3, .slice q4 n4 c4] 28)) := row_on HA2b.out hb3
  have H43 : Hid (w3.heap[g4]? = some (.cells #[.slice kS.s.q0 kS.s.n0 kS.s.c0, .slice kS.s.q1 kS.s.n1 kS.s.c1, .slice kS.s.q2 kS.s.n2 kS.s.c2, .slice kS.s.q3 kS.s.n3 kS.s.c3, .slice kS.s.q4 kS.s.n4 kS.s.c4, .slice kS.qA (kOf f X).A.length kS.cA, .slice kS.qP (kOf f X).P.length kS.cP, .slice kS.qL (kOf f X).L.length kS.cL, .slice kS.qO (kOf f X).O.length kS.cO, .int .i64 (kOf f X).tu, .bool (kOf f X).sp, .slice kS.qE (kOf f X).E.length kS.cE] 43)) := row_on H42b.out hb3
  have HS3 : Hid (Below w2.heap.size w2 w3) := bel_on (Nat.le_refl _) HS2b.out hb3
  clear HW2b HA2b H42b HS2b
  clear kA2b k42b
  obtain ⟨a0, m0, d0, a1, m1, d1, a2, m2, d2, a3, m3, d3, a4, m4, d4⟩ := s4
  have HR3 : Hid (RwX w3 lo6 ⟨a0, m0, d0, a1, m1, d1, a2, m2, d2, a3, m3, d3, a4, m4, d4⟩ X) := hrd3
  have h63 : lo6 ≤ w3.heap.size := by rw [← hlo6]; exact hb3.size
  clear hb3 hrd3 hlo6
  obtain ⟨g6, hg6⟩ : ∃ g, w3.heap.size = g := ⟨_, rfl⟩
  have hal : Below w3.heap.size w3 (w3.alloc (.cells #[.slice a0 m0 d0, .slice a1 m1 d1, .slice a2 m2 d2, .slice a3 m3 d3, .slice a4 m4 d4] 35)) := al1_k _ _
  have HW3b : Hid (Below w.heap.size w (w3.alloc (.cells #[.slice a0 m0 d0, .slice a1 m1 d1, .slice a2 m2 d2, .slice a3 m3 d3, .slice a4 m4 d4] 35))) := bel_on (Nat.le_refl _) HW3.out hal
  have HA3b : Hid ((w3.alloc (.cells #[.slice a0 m0 d0, .slice a1 m1 d1, .slice a2 m2 d2, .slice a3 m3 d3, .slice a4 m4 d4] 35)).heap[w.heap.size]? = some (.cells #[.slice q0 n0 c0, .slice q1 n1 c1, .slice q2 n2 c2, .slice q3 n3 c3, .slice q4 n4 c4] 28)) := row_on HA3.out hal
  have H43b : Hid ((w3.alloc (.cells #[.slice a0 m0 d0, .slice a1 m1 d1, .slice a2 m2 d2, .slice a3 m3 d3, .slice a4 m4 d4] 35)).heap[g4]? = some (.cells #[.slice kS.s.q0 kS.s.n0 kS.s.c0, .slice kS.s.q1 kS.s.n1 kS.s.c1, .slice kS.s.q2 kS.s.n2 kS.s.c2, .slice kS.s.q3 kS.s.n3 kS.s.c3, .slice kS.s.q4 kS.s.n4 kS.s.c4, .slice kS.qA (kOf f X).A.length kS.cA, .slice kS.qP (kOf f X).P.length kS.cP, .slice kS.qL (kOf f X).L.length kS.cL, .slice kS.qO (kOf f X).O.length kS.cO, .int .i64 (kOf f X).tu, .bool (kOf f X).sp, .slice kS.qE (kOf f X).E.length kS.cE] 43)) := row_on H43.out hal
  have HS3b : Hid (Below w2.heap.size w2 (w3.alloc (.cells #[.slice a0 m0 d0, .slice a1 m1 d1, .slice a2 m2 d2, .slice a3 m3 d3, .slice a4 m4 d4] 35))) := bel_on (Nat.le_refl _) HS3.out hal
  clear HW3 HA3 H43 HS3
  have H63b : Hid ((w3.alloc (.cells #[.slice a0 m0 d0, .slice a1 m1 d1, .slice a2 m2 d2, .slice a3 m3 d3, .slice a4 m4 d4] 35)).heap[g6]? = some (.cells #[.slice a0 m0 d0, .slice a1 m1 d1, .slice a2 m2 d2, .slice a3 m3 d3, .slice a4 m4 d4] 35)) := by rw [← hg6]; exact heap_new w3 _
  have HX3b : Hid (RwX (w3.alloc (.cells #[.slice a0 m0 d0, .slice a1 m1 d1, .slice a2 m2 d2, .slice a3 m3 d3, .slice a4 m4 d4] 35)) lo6 ⟨a0, m0, d0, a1, m1, d1, a2, m2, d2, a3, m3, d3, a4, m4, d4⟩ X) := rwx_on HR3.out hal
  have HT3b : Hid (Below w3.heap.size w3 (w3.alloc (.cells #[.slice a0 m0 d0, .slice a1 m1 d1, .slice a2 m2 d2, .slice a3 m3 d3, .slice a4 m4 d4] 35))) := hal
  clear hal
  have kA3b := boxO_cells HA3b.out
  have k43b := box12_cells H43b.out
  have k63b := boxO_cells H63b.out
  unfold SetV
  try dsimp only
  go_wp2_with fail
  try rw [hg6]
  obtain ⟨lo7, hlo7⟩ : ∃ g, (w3.alloc (.cells #[.slice a0 m0 d0, .slice a1 m1 d1, .slice a2 m2 d2, .slice a3 m3 d3, .slice a4 m4 d4] 35)).heap.size = g := ⟨_, rfl⟩
  have h67 : w3.heap.size ≤ lo7 := by rw [← hlo7]; exact HT3b.out.size
  refine (newI ⟨a0, m0, d0, a1, m1, d1, a2, m2, d2, a3, m3, d3, a4, m4, d4⟩ X lo6 f HF.out _ HX3b.out HS4.out HX.out.wf (HG.out.on HW3b.out)).mono ?_
  rintro e w5 ⟨kI, rfl, hgk, hb5⟩
  rw [hlo7] at hgk
  have HW5 : Hid (Below w.heap.size w w5) := bel_on (Nat.le_refl _) HW3b.out hb5
  have HA5 : Hid (w5.heap[w.heap.size]? = some (.cells #[.slice q0 n0 c0, .slice q1 n1 c1, .slice q2 n2 c2, .slice q3 n3 c3, .slice q4 n4 c4] 28)) := row_on HA3b.out hb5
  have H45 : Hid (w5.heap[g4]? = some (.cells #[.slice kS.s.q0 kS.s.n0 kS.s.c0, .slice kS.s.q1 kS.s.n1 kS.s.c1, .slice kS.s.q2 kS.s.n2 kS.s.c2, .slice kS.s.q3 kS.s.n3 kS.s.c3, .slice kS.s.q4 kS.s.n4 kS.s.c4, .slice kS.qA (kOf f X).A.length kS.cA, .slice kS.qP (kOf f X).P.length kS.cP, .slice kS.qL (kOf f X).L.length kS.cL, .slice kS.qO (kOf f X).O.length kS.cO, .int .i64 (kOf f X).tu, .bool (kOf f X).sp, .slice kS.qE (kOf f X).E.length kS.cE] 43)) := row_on H43b.out hb5
  have HS5 : Hid (Below w2.heap.size w2 w5) := bel_on (Nat.le_refl _) HS3b.out hb5
  have H65 : Hid (w5.heap[g6]? = some (.cells #[.slice a0 m0 d0, .slice a1 m1 d1, .slice a2 m2 d2, .slice a3 m3 d3, .slice a4 m4 d4] 35)) := row_on H63b.out hb5
  have HX5 : Hid (RwX w5 lo6 ⟨a0, m0, d0, a1, m1, d1, a2, m2, d2, a3, m3, d3, a4, m4, d4⟩ X) := rwx_on HX3b.out hb5
  have HT5 : Hid (Below w3.heap.size w3 w5) := bel_on (Nat.le_refl _) HT3b.out hb5
  clear HW3b HA3b H43b HS3b H63b HX3b HT3b
  clear kA3b k43b k63b
  have HG5 : Hid (GK w5 lo7 kI f X) := hgk
  have h75 : lo7 ≤ w5.heap.size := by rw [← hlo7]; exact hb5.size
  clear hb5 hgk hlo7
  obtain ⟨g7, hg7⟩ : ∃ g, w5.heap.size = g := ⟨_, rfl⟩
  have hal : Below w5.heap.size w5 (w5.alloc (.cells #[.slice kI.s.q0 kI.s.n0 kI.s.c0, .slice kI.s.q1 kI.s.n1 kI.s.c1, .slice kI.s.q2 kI.s.n2 kI.s.c2, .slice kI.s.q3 kI.s.n3 kI.s.c3, .slice kI.s.q4 kI.s.n4 kI.s.c4, .slice kI.qA (kOf f X).A.length kI.cA, .slice kI.qP (kOf f X).P.length kI.cP, .slice kI.qL (kOf f X).L.length kI.cL, .slice kI.qO (kOf f X).O.length kI.cO, .int .i64 (kOf f X).tu, .bool (kOf f X).sp, .slice kI.qE (kOf f X).E.length kI.cE] 43)) := al1_k _ _
  have HW5b : Hid (Below w.heap.size w (w5.alloc (.cells #[.slice kI.s.q0 kI.s.n0 kI.s.c0, .slice kI.s.q1 kI.s.n1 kI.s.c1, .slice kI.s.q2 kI.s.n2 kI.s.c2, .slice kI.s.q3 kI.s.n3 kI.s.c3, .slice kI.s.q4 kI.s.n4 kI.s.c4, .slice kI.qA (kOf f X).A.length kI.cA, .slice kI.qP (kOf f X).P.length kI.cP, .slice kI.qL (kOf f X).L.length kI.cL, .slice kI.qO (kOf f X).O.length kI.cO, .int .i64 (kOf f X).tu, .bool (kOf f X).sp, .slice kI.qE (kOf f X).E.length kI.cE] 43))) := bel_on (Nat.le_refl _) HW5.out hal
  have HA5b : Hid ((w5.alloc (.cells #[.slice kI.s.q0 kI.s.n0 kI.s.c0, .slice kI.s.q1 kI.s.n1 kI.s.c1, .slice kI.s.q2 kI.s.n2 kI.s.c2, .slice kI.s.q3 kI.s.n3 kI.s.c3, .slice kI.s.q4 kI.s.n4 kI.s.c4, .slice kI.qA (kOf f X).A.length kI.cA, .slice kI.qP (kOf f X).P.length kI.cP, .slice kI.qL (kOf f X).L.length kI.cL, .slice kI.qO (kOf f X).O.length kI.cO, .int .i64 (kOf f X).tu, .bool (kOf f X).sp, .slice kI.qE (kOf f X).E.length kI.cE] 43)).heap[w.heap.size]? = some (.cells #[.slice q0 n0 c0, .slice q1 n1 c1, .slice q2 n2 c2, .slice q3 n3 c3, .slice q4 n4 c4] 28)) := row_on HA5.out hal
  have H45b : Hid ((w5.alloc (.cells #[.slice kI.s.q0 kI.s.n0 kI.s.c0, .slice kI.s.q1 kI.s.n1 kI.s.c1, .slice kI.s.q2 kI.s.n2 kI.s.c2, .slice kI.s.q3 kI.s.n3 kI.s.c3, .slice kI.s.q4 kI.s.n4 kI.s.c4, .slice kI.qA (kOf f X).A.length kI.cA, .slice kI.qP (kOf f X).P.length kI.cP, .slice kI.qL (kOf f X).L.length kI.cL, .slice kI.qO (kOf f X).O.length kI.cO, .int .i64 (kOf f X).tu, .bool (kOf f X).sp, .slice kI.qE (kOf f X).E.length kI.cE] 43)).heap[g4]? = some (.cells #[.slice kS.s.q0 kS.s.n0 kS.s.c0, .slice kS.s.q1 kS.s.n1 kS.s.c1, .slice kS.s.q2 kS.s.n2 kS.s.c2, .slice kS.s.q3 kS.s.n3 kS.s.c3, .slice kS.s.q4 kS.s.n4 kS.s.c4, .slice kS.qA (kOf f X).A.length kS.cA, .slice kS.qP (kOf f X).P.length kS.cP, .slice kS.qL (kOf f X).L.length kS.cL, .slice kS.qO (kOf f X).O.length kS.cO, .int .i64 (kOf f X).tu, .bool (kOf f X).sp, .slice kS.qE (kOf f X).E.length kS.cE] 43)) := row_on H45.out hal
  have HS5b : Hid (Below w2.heap.size w2 (w5.alloc (.cells #[.slice kI.s.q0 kI.s.n0 kI.s.c0, .slice kI.s.q1 kI.s.n1 kI.s.c1, .slice kI.s.q2 kI.s.n2 kI.s.c2, .slice kI.s.q3 kI.s.n3 kI.s.c3, .slice kI.s.q4 kI.s.n4 kI.s.c4, .slice kI.qA (kOf f X).A.length kI.cA, .slice kI.qP (kOf f X).P.length kI.cP, .slice kI.qL (kOf f X).L.length kI.cL, .slice kI.qO (kOf f X).O.length kI.cO, .int .i64 (kOf f X).tu, .bool (kOf f X).sp, .slice kI.qE (kOf f X).E.length kI.cE] 43))) := bel_on (Nat.le_refl _) HS5.out hal
  have H65b : Hid ((w5.alloc (.cells #[.slice kI.s.q0 kI.s.n0 kI.s.c0, .slice kI.s.q1 kI.s.n1 kI.s.c1, .slice kI.s.q2 kI.s.n2 kI.s.c2, .slice kI.s.q3 kI.s.n3 kI.s.c3, .slice kI.s.q4 kI.s.n4 kI.s.c4, .slice kI.qA (kOf f X).A.length kI.cA, .slice kI.qP (kOf f X).P.length kI.cP, .slice kI.qL (kOf f X).L.length kI.cL, .slice kI.qO (kOf f X).O.length kI.cO, .int .i64 (kOf f X).tu, .bool (kOf f X).sp, .slice kI.qE (kOf f X).E.length kI.cE] 43)).heap[g6]? = some (.cells #[.slice a0 m0 d0, .slice a1 m1 d1, .slice a2 m2 d2, .slice a3 m3 d3, .slice a4 m4 d4] 35)) := row_on H65.out hal
  have HX5b : Hid (RwX (w5.alloc (.cells #[.slice kI.s.q0 kI.s.n0 kI.s.c0, .slice kI.s.q1 kI.s.n1 kI.s.c1, .slice kI.s.q2 kI.s.n2 kI.s.c2, .slice kI.s.q3 kI.s.n3 kI.s.c3, .slice kI.s.q4 kI.s.n4 kI.s.c4, .slice kI.qA (kOf f X).A.length kI.cA, .slice kI.qP (kOf f X).P.length kI.cP, .slice kI.qL (kOf f X).L.length kI.cL, .slice kI.qO (kOf f X).O.length kI.cO, .int .i64 (kOf f X).tu, .bool (kOf f X).sp, .slice kI.qE (kOf f X).E.length kI.cE] 43)) lo6 ⟨a0, m0, d0, a1, m1, d1, a2, m2, d2, a3, m3, d3, a4, m4, d4⟩ X) := rwx_on HX5.out hal
  have HT5b : Hid (Below w3.heap.size w3 (w5.alloc (.cells #[.slice kI.s.q0 kI.s.n0 kI.s.c0, .slice kI.s.q1 kI.s.n1 kI.s.c1, .slice kI.s.q2 kI.s.n2 kI.s.c2, .slice kI.s.q3 kI.s.n3 kI.s.c3, .slice kI.s.q4 kI.s.n4 kI.s.c4, .slice kI.qA (kOf f X).A.length kI.cA, .slice kI.qP (kOf f X).P.length kI.cP, .slice kI.qL (kOf f X).L.length kI.cL, .slice kI.qO (kOf f X).O.length kI.cO, .int .i64 (kOf f X).tu, .bool (kOf f X).sp, .slice kI.qE (kOf f X).E.length kI.cE] 43))) := bel_on (Nat.le_refl _) HT5.out hal
  have HG5b : Hid (GK (w5.alloc (.cells #[.slice kI.s.q0 kI.s.n0 kI.s.c0, .slice kI.s.q1 kI.s.n1 kI.s.c1, .slice kI.s.q2 kI.s.n2 kI.s.c2, .slice kI.s.q3 kI.s.n3 kI.s.c3, .slice kI.s.q4 kI.s.n4 kI.s.c4, .slice kI.qA (kOf f X).A.length kI.cA, .slice kI.qP (kOf f X).P.length kI.cP, .slice kI.qL (kOf f X).L.length kI.cL, .slice kI.qO (kOf f X).O.length kI.cO, .int .i64 (kOf f X).tu, .bool (kOf f X).sp, .slice kI.qE (kOf f X).E.length kI.cE] 43)) lo7 kI f X) := HG5.out.on hal
  clear HW5 HA5 H45 HS5 H65 HX5 HT5 HG5
  have H75b : Hid ((w5.alloc (.cells #[.slice kI.s.q0 kI.s.n0 kI.s.c0, .slice kI.s.q1 kI.s.n1 kI.s.c1, .slice kI.s.q2 kI.s.n2 kI.s.c2, .slice kI.s.q3 kI.s.n3 kI.s.c3, .slice kI.s.q4 kI.s.n4 kI.s.c4, .slice kI.qA (kOf f X).A.length kI.cA, .slice kI.qP (kOf f X).P.length kI.cP, .slice kI.qL (kOf f X).L.length kI.cL, .slice kI.qO (kOf f X).O.length kI.cO, .int .i64 (kOf f X).tu, .bool (kOf f X).sp, .slice kI.qE (kOf f X).E.length kI.cE] 43)).heap[g7]? = some (.cells #[.slice kI.s.q0 kI.s.n0 kI.s.c0, .slice kI.s.q1 kI.s.n1 kI.s.c1, .slice kI.s.q2 kI.s.n2 kI.s.c2, .slice kI.s.q3 kI.s.n3 kI.s.c3, .slice kI.s.q4 kI.s.n4 kI.s.c4, .slice kI.qA (kOf f X).A.length kI.cA, .slice kI.qP (kOf f X).P.length kI.cP, .slice kI.qL (kOf f X).L.length kI.cL, .slice kI.qO (kOf f X).O.length kI.cO, .int .i64 (kOf f X).tu, .bool (kOf f X).sp, .slice kI.qE (kOf f X).E.length kI.cE] 43)) := by rw [← hg7]; exact heap_new w5 _
  clear hal
  have kA5b := boxO_cells HA5b.out
  have k45b := box12_cells H45b.out
  have k65b := boxO_cells H65b.out
  have k75b := box12_cells H75b.out
  unfold KerV
  try dsimp only
  go_wp2_with fail
  try rw [hg7]
  refine (eqK kI kS (kOf f X) _ HG5b.out.rd (HRS.out.keep HS5b.out (Nat.le_refl _)) (smK_of HS.out HX.out.rd HG5b.out.rd)).mono ?_
  rintro e w6 ⟨rfl, hb6⟩
  have HW6 : Hid (Below w.heap.size w w6) := bel_on (Nat.le_refl _) HW5b.out hb6
  have HA6 : Hid (w6.heap[w.heap.size]? = some (.cells #[.slice q0 n0 c0, .slice q1 n1 c1, .slice q2 n2 c2, .slice q3 n3 c3, .slice q4 n4 c4] 28)) := row_on HA5b.out hb6
  have H46 : Hid (w6.heap[g4]? = some (.cells #[.slice kS.s.q0 kS.s.n0 kS.s.c0, .slice kS.s.q1 kS.s.n1 kS.s.c1, .slice kS.s.q2 kS.s.n2 kS.s.c2, .slice kS.s.q3 kS.s.n3 kS.s.c3, .slice kS.s.q4 kS.s.n4 kS.s.c4, .slice kS.qA (kOf f X).A.length kS.cA, .slice kS.qP (kOf f X).P.length kS.cP, .slice kS.qL (kOf f X).L.length kS.cL, .slice kS.qO (kOf f X).O.length kS.cO, .int .i64 (kOf f X).tu, .bool (kOf f X).sp, .slice kS.qE (kOf f X).E.length kS.cE] 43)) := row_on H45b.out hb6
  have HS6 : Hid (Below w2.heap.size w2 w6) := bel_on (Nat.le_refl _) HS5b.out hb6
  have H66 : Hid (w6.heap[g6]? = some (.cells #[.slice a0 m0 d0, .slice a1 m1 d1, .slice a2 m2 d2, .slice a3 m3 d3, .slice a4 m4 d4] 35)) := row_on H65b.out hb6
  have HX6 : Hid (RwX w6 lo6 ⟨a0, m0, d0, a1, m1, d1, a2, m2, d2, a3, m3, d3, a4, m4, d4⟩ X) := rwx_on HX5b.out hb6
  have HT6 : Hid (Below w3.heap.size w3 w6) := bel_on (Nat.le_refl _) HT5b.out hb6
  have HG6 : Hid (GK w6 lo7 kI f X) := HG5b.out.on hb6
  have H76 : Hid (w6.heap[g7]? = some (.cells #[.slice kI.s.q0 kI.s.n0 kI.s.c0, .slice kI.s.q1 kI.s.n1 kI.s.c1, .slice kI.s.q2 kI.s.n2 kI.s.c2, .slice kI.s.q3 kI.s.n3 kI.s.c3, .slice kI.s.q4 kI.s.n4 kI.s.c4, .slice kI.qA (kOf f X).A.length kI.cA, .slice kI.qP (kOf f X).P.length kI.cP, .slice kI.qL (kOf f X).L.length kI.cL, .slice kI.qO (kOf f X).O.length kI.cO, .int .i64 (kOf f X).tu, .bool (kOf f X).sp, .slice kI.qE (kOf f X).E.length kI.cE] 43)) := row_on H75b.out hb6
  clear HW5b HA5b H45b HS5b H65b HX5b HT5b HG5b H75b
  clear kA5b k45b k65b k75b
  have kA6 := boxO_cells HA6.out
  have k46 := box12_cells H46.out
  have k66 := boxO_cells H66.out
  have k76 := box12_cells H76.out
  clear hb6
  have hbb : (f != f) = false := by simp
  have HLW : Hid (LW w6 w6 w.heap.size g6 (.cells #[.slice q0 n0 c0, .slice q1 n1 c1, .slice q2 n2 c2, .slice q3 n3 c3, .slice q4 n4 c4] 28) (.cells #[.slice a0 m0 d0, .slice a1 m1 d1, .slice a2 m2 d2, .slice a3 m3 d3, .slice a4 m4 d4] 35) ⟨a0, m0, d0, a1, m1, d1, a2, m2, d2, a3, m3, d3, a4, m4, d4⟩ X) := ⟨Below.refl _ _, HA6.out, H66.out, HX6.out.rd⟩
  go_wp2
  clear kA6 k46 k66 k76
  go_region_held3 (fun w' => w'.cell? ⟨w.heap.size, 0, none⟩ = some (.slice q0 n0 c0) ∧ w'.cell? ⟨w.heap.size, 1, none⟩ = some (.slice q1 n1 c1) ∧ w'.cell? ⟨w.heap.size, 2, none⟩ = some (.slice q2 n2 c2) ∧ w'.cell? ⟨w.heap.size, 3, none⟩ = some (.slice q3 n3 c3) ∧ w'.cell? ⟨w.heap.size, 4, none⟩ = some (.slice q4 n4 c4) ∧ w'.cell? ⟨g6, 0, none⟩ = some (.slice a0 m0 d0) ∧ w'.cell? ⟨g6, 1, none⟩ = some (.slice a1 m1 d1) ∧ w'.cell? ⟨g6, 2, none⟩ = some (.slice a2 m2 d2) ∧ w'.cell? ⟨g6, 3, none⟩ = some (.slice a3 m3 d3) ∧ w'.cell? ⟨g6, 4, none⟩ = some (.slice a4 m4 d4) ∧ LW w6 w' w.heap.size g6 (.cells #[.slice q0 n0 c0, .slice q1 n1 c1, .slice q2 n2 c2, .slice q3 n3 c3, .slice q4 n4 c4] 28) (.cells #[.slice a0 m0 d0, .slice a1 m1 d1, .slice a2 m2 d2, .slice a3 m3 d3, .slice a4 m4 d4] 35) ⟨a0, m0, d0, a1, m1, d1, a2, m2, d2, a3, m3, d3, a4, m4, d4⟩ X)
    (first | (with_reducible exact lw_conj HLW.out.drew) | (refine lw_conj (LW.on' (by assumption) (lw_of (by assumption)))))
    (first | (go_at_call 6; refine (toSet ⟨q0, n0, c0, q1, n1, c1, q2, n2, c2, q3, n3, c3, q4, n4, c4⟩ X _ (HX.out.rd.keep (bel_on (Nat.le_refl _) HW6.out (lw_of (by assumption)).b) (Nat.le_refl _)) HS.out).mono ?_; rintro e w8 ⟨s8, rfl, hrd8, _, hb8⟩; have HX8 : Hid (RdX w8 s8 X) := hrd8; clear hrd8) | (go_at_call 9; refine (eqSet ⟨a0, m0, d0, a1, m1, d1, a2, m2, d2, a3, m3, d3, a4, m4, d4⟩ s8 X _ (lw_of (by assumption)).x HX8.out HS4.out).mono ?_; rintro e w9 ⟨rfl, hb9⟩))
  rename_i HH
  have h69 : Below w6.heap.size w6 w9 := (lw_of HH).b
  have HW9 : Hid (Below w.heap.size w w9) := bel_on (Nat.le_refl _) HW6.out h69
  have HA9 : Hid (w9.heap[w.heap.size]? = some (.cells #[.slice q0 n0 c0, .slice q1 n1 c1, .slice q2 n2 c2, .slice q3 n3 c3, .slice q4 n4 c4] 28)) := row_on HA6.out h69
  have H49 : Hid (w9.heap[g4]? = some (.cells #[.slice kS.s.q0 kS.s.n0 kS.s.c0, .slice kS.s.q1 kS.s.n1 kS.s.c1, .slice kS.s.q2 kS.s.n2 kS.s.c2, .slice kS.s.q3 kS.s.n3 kS.s.c3, .slice kS.s.q4 kS.s.n4 kS.s.c4, .slice kS.qA (kOf f X).A.length kS.cA, .slice kS.qP (kOf f X).P.length kS.cP, .slice kS.qL (kOf f X).L.length kS.cL, .slice kS.qO (kOf f X).O.length kS.cO, .int .i64 (kOf f X).tu, .bool (kOf f X).sp, .slice kS.qE (kOf f X).E.length kS.cE] 43)) := row_on H46.out h69
  have HS9 : Hid (Below w2.heap.size w2 w9) := bel_on (Nat.le_refl _) HS6.out h69
  have H69 : Hid (w9.heap[g6]? = some (.cells #[.slice a0 m0 d0, .slice a1 m1 d1, .slice a2 m2 d2, .slice a3 m3 d3, .slice a4 m4 d4] 35)) := row_on H66.out h69
  have HX9 : Hid (RwX w9 lo6 ⟨a0, m0, d0, a1, m1, d1, a2, m2, d2, a3, m3, d3, a4, m4, d4⟩ X) := rwx_on HX6.out h69
  have HT9 : Hid (Below w3.heap.size w3 w9) := bel_on (Nat.le_refl _) HT6.out h69
  have HG9 : Hid (GK w9 lo7 kI f X) := HG6.out.on h69
  have H79 : Hid (w9.heap[g7]? = some (.cells #[.slice kI.s.q0 kI.s.n0 kI.s.c0, .slice kI.s.q1 kI.s.n1 kI.s.c1, .slice kI.s.q2 kI.s.n2 kI.s.c2, .slice kI.s.q3 kI.s.n3 kI.s.c3, .slice kI.s.q4 kI.s.n4 kI.s.c4, .slice kI.qA (kOf f X).A.length kI.cA, .slice kI.qP (kOf f X).P.length kI.cP, .slice kI.qL (kOf f X).L.length kI.cL, .slice kI.qO (kOf f X).O.length kI.cO, .int .i64 (kOf f X).tu, .bool (kOf f X).sp, .slice kI.qE (kOf f X).E.length kI.cE] 43)) := row_on H76.out h69
  clear HW6 HA6 H46 HS6 H66 HX6 HT6 HG6 H76
  clear HH hb8 hb9 HLW HX8 h69
  have kA9 := boxO_cells HA9.out
  have k49 := box12_cells H49.out
  have k69 := boxO_cells H69.out
  have k79 := box12_cells H79.out
  go_wp2_with fail
  refine (mkwX ⟨a0, m0, d0, a1, m1, d1, a2, m2, d2, a3, m3, d3, a4, m4, d4⟩ X lo6 w3 _ HR3.out HT9.out HS4.out).mono ?_
  rintro e w10 ⟨rm, rfl, hrm, hrm2, hmk⟩
  have hbl : Below lo6 w9 w10 := by
    rcases hmk.below with h | h
    · exact h
    · have := HT9.out.size; omega
  clear kA9 k49 k69 k79
  have HW10 : Hid (Below w.heap.size w w10) := HW9.out.trans (hbl.mono (by omega))
  have HA10 : Hid (w10.heap[w.heap.size]? = some (.cells #[.slice q0 n0 c0, .slice q1 n1 c1, .slice q2 n2 c2, .slice q3 n3 c3, .slice q4 n4 c4] 28)) := hmk.row HA9.out (.inl hA6)
  have H410 : Hid (w10.heap[g4]? = some (.cells #[.slice kS.s.q0 kS.s.n0 kS.s.c0, .slice kS.s.q1 kS.s.n1 kS.s.c1, .slice kS.s.q2 kS.s.n2 kS.s.c2, .slice kS.s.q3 kS.s.n3 kS.s.c3, .slice kS.s.q4 kS.s.n4 kS.s.c4, .slice kS.qA (kOf f X).A.length kS.cA, .slice kS.qP (kOf f X).P.length kS.cP, .slice kS.qL (kOf f X).L.length kS.cL, .slice kS.qO (kOf f X).O.length kS.cO, .int .i64 (kOf f X).tu, .bool (kOf f X).sp, .slice kS.qE (kOf f X).E.length kS.cE] 43)) := hmk.row H49.out (.inl h46)
  have H710 : Hid (w10.heap[g7]? = some (.cells #[.slice kI.s.q0 kI.s.n0 kI.s.c0, .slice kI.s.q1 kI.s.n1 kI.s.c1, .slice kI.s.q2 kI.s.n2 kI.s.c2, .slice kI.s.q3 kI.s.n3 kI.s.c3, .slice kI.s.q4 kI.s.n4 kI.s.c4, .slice kI.qA (kOf f X).A.length kI.cA, .slice kI.qP (kOf f X).P.length kI.cP, .slice kI.qL (kOf f X).L.length kI.cL, .slice kI.qO (kOf f X).O.length kI.cO, .int .i64 (kOf f X).tu, .bool (kOf f X).sp, .slice kI.qE (kOf f X).E.length kI.cE] 43)) := hmk.row H79.out (.inr (by omega))
  have HS10 : Hid (Below w2.heap.size w2 w10) := HS9.out.trans (hbl.mono h26)
  have HG10 : Hid (GK w10 lo7 kI f X) := HG9.out.mkd hmk h67
  clear HW9 HA9 H49 HS9 H69 HX9 HT9 HG9 H79 hmk hbl
  have kA10 := boxO_cells HA10.out
  have k410 := box12_cells H410.out
  have k710 := box12_cells H710.out
  have hrn : ¬ rm < 0 := by omega
  go_wp2_with fail
  refine (eqK kI kS (kOf f X) _ HG10.out.rd (HRS.out.keep HS10.out (Nat.le_refl _)) (smK_of HS.out HX.out.rd HG10.out.rd)).mono ?_
  rintro e w11 ⟨rfl, hb11⟩
  have HW11 : Hid (Below w.heap.size w w11) := bel_on (Nat.le_refl _) HW10.out hb11
  have HA11 : Hid (w11.heap[w.heap.size]? = some (.cells #[.slice q0 n0 c0, .slice q1 n1 c1, .slice q2 n2 c2, .slice q3 n3 c3, .slice q4 n4 c4] 28)) := row_on HA10.out hb11
  have H411 : Hid (w11.heap[g4]? = some (.cells #[.slice kS.s.q0 kS.s.n0 kS.s.c0, .slice kS.s.q1 kS.s.n1 kS.s.c1, .slice kS.s.q2 kS.s.n2 kS.s.c2, .slice kS.s.q3 kS.s.n3 kS.s.c3, .slice kS.s.q4 kS.s.n4 kS.s.c4, .slice kS.qA (kOf f X).A.length kS.cA, .slice kS.qP (kOf f X).P.length kS.cP, .slice kS.qL (kOf f X).L.length kS.cL, .slice kS.qO (kOf f X).O.length kS.cO, .int .i64 (kOf f X).tu, .bool (kOf f X).sp, .slice kS.qE (kOf f X).E.length kS.cE] 43)) := row_on H410.out hb11
  have HS11 : Hid (Below w2.heap.size w2 w11) := bel_on (Nat.le_refl _) HS10.out hb11
  have HG11 : Hid (GK w11 lo7 kI f X) := HG10.out.on hb11
  have H711 : Hid (w11.heap[g7]? = some (.cells #[.slice kI.s.q0 kI.s.n0 kI.s.c0, .slice kI.s.q1 kI.s.n1 kI.s.c1, .slice kI.s.q2 kI.s.n2 kI.s.c2, .slice kI.s.q3 kI.s.n3 kI.s.c3, .slice kI.s.q4 kI.s.n4 kI.s.c4, .slice kI.qA (kOf f X).A.length kI.cA, .slice kI.qP (kOf f X).P.length kI.cP, .slice kI.qL (kOf f X).L.length kI.cL, .slice kI.qO (kOf f X).O.length kI.cO, .int .i64 (kOf f X).tu, .bool (kOf f X).sp, .slice kI.qE (kOf f X).E.length kI.cE] 43)) := row_on H710.out hb11
  clear HW10 HA10 H410 HS10 HG10 H710
  clear kA10 k410 k710
  have kA11 := boxO_cells HA11.out
  have k411 := box12_cells H411.out
  have k711 := box12_cells H711.out
  have h7s : lo7 ≤ w11.heap.size := by have := row_lt H711.out; omega
  clear hb11
  go_wp2_with fail
  refine (markG kI f X lo7 HF.out HS.out.b _ HG11.out h7s).mono ?_
  rintro e w12 ⟨r, rfl, hgm, hr5, hbm, hkk⟩
  clear kA11 k411 k711
  have HW12 : Hid (Below w.heap.size w w12) := HW11.out.trans (hbm.mono (by omega))
  have HA12 : Hid (w12.heap[w.heap.size]? = some (.cells #[.slice q0 n0 c0, .slice q1 n1 c1, .slice q2 n2 c2, .slice q3 n3 c3, .slice q4 n4 c4] 28)) := (hbm.block _ (by omega)).trans HA11.out
  have H412 : Hid (w12.heap[g4]? = some (.cells #[.slice kS.s.q0 kS.s.n0 kS.s.c0, .slice kS.s.q1 kS.s.n1 kS.s.c1, .slice kS.s.q2 kS.s.n2 kS.s.c2, .slice kS.s.q3 kS.s.n3 kS.s.c3, .slice kS.s.q4 kS.s.n4 kS.s.c4, .slice kS.qA (kOf f X).A.length kS.cA, .slice kS.qP (kOf f X).P.length kS.cP, .slice kS.qL (kOf f X).L.length kS.cL, .slice kS.qO (kOf f X).O.length kS.cO, .int .i64 (kOf f X).tu, .bool (kOf f X).sp, .slice kS.qE (kOf f X).E.length kS.cE] 43)) := (hbm.block _ (by omega)).trans H411.out
  have H712 : Hid (w12.heap[g7]? = some (.cells #[.slice kI.s.q0 kI.s.n0 kI.s.c0, .slice kI.s.q1 kI.s.n1 kI.s.c1, .slice kI.s.q2 kI.s.n2 kI.s.c2, .slice kI.s.q3 kI.s.n3 kI.s.c3, .slice kI.s.q4 kI.s.n4 kI.s.c4, .slice kI.qA (kOf f X).A.length kI.cA, .slice kI.qP (kOf f X).P.length kI.cP, .slice kI.qL (kOf f X).L.length kI.cL, .slice kI.qO (kOf f X).O.length kI.cO, .int .i64 (kOf f X).tu, .bool (kOf f X).sp, .slice kI.qE (kOf f X).E.length kI.cE] 43)) := hkk _ _ H711.out
  have HS12 : Hid (Below w2.heap.size w2 w12) := HS11.out.trans (hbm.mono (by omega))
  have HM12 : Hid (GM w12 lo7 kI f X r) := hgm
  clear HW11 HA11 H411 HS11 HG11 H711 hgm hbm hkk
  have kA12 := boxO_cells HA12.out
  have k412 := box12_cells H412.out
  have k712 := box12_cells H712.out
  have hr0 : ¬ (r : Int) < 0 := by omega
  have hrr : ((r : Int) != (r : Int)) = false := by simp
  go_wp2_with fail
  refine (heldG kI f X lo7 r HF.out HS.out.b _ HM12.out).mono ?_
  rintro e w13 ⟨rfl, hb13⟩
  have HW13 : Hid (Below w.heap.size w w13) := bel_on (Nat.le_refl _) HW12.out hb13
  have HA13 : Hid (w13.heap[w.heap.size]? = some (.cells #[.slice q0 n0 c0, .slice q1 n1 c1, .slice q2 n2 c2, .slice q3 n3 c3, .slice q4 n4 c4] 28)) := row_on HA12.out hb13
  have H413 : Hid (w13.heap[g4]? = some (.cells #[.slice kS.s.q0 kS.s.n0 kS.s.c0, .slice kS.s.q1 kS.s.n1 kS.s.c1, .slice kS.s.q2 kS.s.n2 kS.s.c2, .slice kS.s.q3 kS.s.n3 kS.s.c3, .slice kS.s.q4 kS.s.n4 kS.s.c4, .slice kS.qA (kOf f X).A.length kS.cA, .slice kS.qP (kOf f X).P.length kS.cP, .slice kS.qL (kOf f X).L.length kS.cL, .slice kS.qO (kOf f X).O.length kS.cO, .int .i64 (kOf f X).tu, .bool (kOf f X).sp, .slice kS.qE (kOf f X).E.length kS.cE] 43)) := row_on H412.out hb13
  have HS13 : Hid (Below w2.heap.size w2 w13) := bel_on (Nat.le_refl _) HS12.out hb13
  have H713 : Hid (w13.heap[g7]? = some (.cells #[.slice kI.s.q0 kI.s.n0 kI.s.c0, .slice kI.s.q1 kI.s.n1 kI.s.c1, .slice kI.s.q2 kI.s.n2 kI.s.c2, .slice kI.s.q3 kI.s.n3 kI.s.c3, .slice kI.s.q4 kI.s.n4 kI.s.c4, .slice kI.qA (kOf f X).A.length kI.cA, .slice kI.qP (kOf f X).P.length kI.cP, .slice kI.qL (kOf f X).L.length kI.cL, .slice kI.qO (kOf f X).O.length kI.cO, .int .i64 (kOf f X).tu, .bool (kOf f X).sp, .slice kI.qE (kOf f X).E.length kI.cE] 43)) := row_on H712.out hb13
  have HM13 : Hid (GM w13 lo7 kI f X r) := HM12.out.on hb13
  clear HW12 HA12 H412 HS12 H712 HM12
  clear kA12 k412 k712
  have kA13 := boxO_cells HA13.out
  have k413 := box12_cells H413.out
  have k713 := box12_cells H713.out
  clear hb13
  go_wp2_with fail
  refine (toSetR ⟨q0, n0, c0, q1, n1, c1, q2, n2, c2, q3, n3, c3, q4, n4, c4⟩ X _ (HX.out.rd.keep HW13.out (Nat.le_refl _)) HS.out).mono ?_
  rintro e w14 ⟨s9, rfl, hrd9, hb14⟩
  have HR9 : Hid (RwX w14 _ s9 X) := hrd9
  have HS9 : Hid (SmX s9 X) := sm_of HS.out HX.out.rd hrd9.rd
  have HW14 : Hid (Below w.heap.size w w14) := bel_on (Nat.le_refl _) HW13.out hb14
  have HA14 : Hid (w14.heap[w.heap.size]? = some (.cells #[.slice q0 n0 c0, .slice q1 n1 c1, .slice q2 n2 c2, .slice q3 n3 c3, .slice q4 n4 c4] 28)) := row_on HA13.out hb14
  have H414 : Hid (w14.heap[g4]? = some (.cells #[.slice kS.s.q0 kS.s.n0 kS.s.c0, .slice kS.s.q1 kS.s.n1 kS.s.c1, .slice kS.s.q2 kS.s.n2 kS.s.c2, .slice kS.s.q3 kS.s.n3 kS.s.c3, .slice kS.s.q4 kS.s.n4 kS.s.c4, .slice kS.qA (kOf f X).A.length kS.cA, .slice kS.qP (kOf f X).P.length kS.cP, .slice kS.qL (kOf f X).L.length kS.cL, .slice kS.qO (kOf f X).O.length kS.cO, .int .i64 (kOf f X).tu, .bool (kOf f X).sp, .slice kS.qE (kOf f X).E.length kS.cE] 43)) := row_on H413.out hb14
  have HS14 : Hid (Below w2.heap.size w2 w14) := bel_on (Nat.le_refl _) HS13.out hb14
  have H714 : Hid (w14.heap[g7]? = some (.cells #[.slice kI.s.q0 kI.s.n0 kI.s.c0, .slice kI.s.q1 kI.s.n1 kI.s.c1, .slice kI.s.q2 kI.s.n2 kI.s.c2, .slice kI.s.q3 kI.s.n3 kI.s.c3, .slice kI.s.q4 kI.s.n4 kI.s.c4, .slice kI.qA (kOf f X).A.length kI.cA, .slice kI.qP (kOf f X).P.length kI.cP, .slice kI.qL (kOf f X).L.length kI.cL, .slice kI.qO (kOf f X).O.length kI.cO, .int .i64 (kOf f X).tu, .bool (kOf f X).sp, .slice kI.qE (kOf f X).E.length kI.cE] 43)) := row_on H713.out hb14
  have HM14 : Hid (GM w14 lo7 kI f X r) := HM13.out.on hb14
  clear HW13 HA13 H413 HS13 H713 HM13
  clear kA13 k413 k713
  have kA14 := boxO_cells HA14.out
  have k414 := box12_cells H414.out
  have k714 := box12_cells H714.out
  clear hb14 hrd9
  go_wp2_with fail
  refine (newI s9 X _ f HF.out _ HR9.out HS9.out HX.out.wf (HG.out.on HW14.out)).mono ?_
  rintro e w15 ⟨kY, rfl, hgk, hb15⟩
  obtain ⟨lo12, hlo12⟩ : ∃ g, w14.heap.size = g := ⟨_, rfl⟩
  rw [hlo12] at hgk
  have HW15 : Hid (Below w.heap.size w w15) := bel_on (Nat.le_refl _) HW14.out hb15
  have HA15 : Hid (w15.heap[w.heap.size]? = some (.cells #[.slice q0 n0 c0, .slice q1 n1 c1, .slice q2 n2 c2, .slice q3 n3 c3, .slice q4 n4 c4] 28)) := row_on HA14.out hb15
  have H415 : Hid (w15.heap[g4]? = some (.cells #[.slice kS.s.q0 kS.s.n0 kS.s.c0, .slice kS.s.q1 kS.s.n1 kS.s.c1, .slice kS.s.q2 kS.s.n2 kS.s.c2, .slice kS.s.q3 kS.s.n3 kS.s.c3, .slice kS.s.q4 kS.s.n4 kS.s.c4, .slice kS.qA (kOf f X).A.length kS.cA, .slice kS.qP (kOf f X).P.length kS.cP, .slice kS.qL (kOf f X).L.length kS.cL, .slice kS.qO (kOf f X).O.length kS.cO, .int .i64 (kOf f X).tu, .bool (kOf f X).sp, .slice kS.qE (kOf f X).E.length kS.cE] 43)) := row_on H414.out hb15
  have HS15 : Hid (Below w2.heap.size w2 w15) := bel_on (Nat.le_refl _) HS14.out hb15
  have H715 : Hid (w15.heap[g7]? = some (.cells #[.slice kI.s.q0 kI.s.n0 kI.s.c0, .slice kI.s.q1 kI.s.n1 kI.s.c1, .slice kI.s.q2 kI.s.n2 kI.s.c2, .slice kI.s.q3 kI.s.n3 kI.s.c3, .slice kI.s.q4 kI.s.n4 kI.s.c4, .slice kI.qA (kOf f X).A.length kI.cA, .slice kI.qP (kOf f X).P.length kI.cP, .slice kI.qL (kOf f X).L.length kI.cL, .slice kI.qO (kOf f X).O.length kI.cO, .int .i64 (kOf f X).tu, .bool (kOf f X).sp, .slice kI.qE (kOf f X).E.length kI.cE] 43)) := row_on H714.out hb15
  have HM15 : Hid (GM w15 lo7 kI f X r) := HM14.out.on hb15
  clear HW14 HA14 H414 HS14 H714 HM14
  clear kA14 k414 k714
  have HH15 : Hid (GK w15 lo12 kY f X) := hgk
  clear hb15 hgk hlo12 HR9 HS9
  obtain ⟨g12, hg12⟩ : ∃ g, w15.heap.size = g := ⟨_, rfl⟩
  have hal : Below w15.heap.size w15 (w15.alloc (.cells #[.slice kY.s.q0 kY.s.n0 kY.s.c0, .slice kY.s.q1 kY.s.n1 kY.s.c1, .slice kY.s.q2 kY.s.n2 kY.s.c2, .slice kY.s.q3 kY.s.n3 kY.s.c3, .slice kY.s.q4 kY.s.n4 kY.s.c4, .slice kY.qA (kOf f X).A.length kY.cA, .slice kY.qP (kOf f X).P.length kY.cP, .slice kY.qL (kOf f X).L.length kY.cL, .slice kY.qO (kOf f X).O.length kY.cO, .int .i64 (kOf f X).tu, .bool (kOf f X).sp, .slice kY.qE (kOf f X).E.length kY.cE] 43)) := al1_k _ _
  have HW15b : Hid (Below w.heap.size w (w15.alloc (.cells #[.slice kY.s.q0 kY.s.n0 kY.s.c0, .slice kY.s.q1 kY.s.n1 kY.s.c1, .slice kY.s.q2 kY.s.n2 kY.s.c2, .slice kY.s.q3 kY.s.n3 kY.s.c3, .slice kY.s.q4 kY.s.n4 kY.s.c4, .slice kY.qA (kOf f X).A.length kY.cA, .slice kY.qP (kOf f X).P.length kY.cP, .slice kY.qL (kOf f X).L.length kY.cL, .slice kY.qO (kOf f X).O.length kY.cO, .int .i64 (kOf f X).tu, .bool (kOf f X).sp, .slice kY.qE (kOf f X).E.length kY.cE] 43))) := bel_on (Nat.le_refl _) HW15.out hal
  have HA15b : Hid ((w15.alloc (.cells #[.slice kY.s.q0 kY.s.n0 kY.s.c0, .slice kY.s.q1 kY.s.n1 kY.s.c1, .slice kY.s.q2 kY.s.n2 kY.s.c2, .slice kY.s.q3 kY.s.n3 kY.s.c3, .slice kY.s.q4 kY.s.n4 kY.s.c4, .slice kY.qA (kOf f X).A.length kY.cA, .slice kY.qP (kOf f X).P.length kY.cP, .slice kY.qL (kOf f X).L.length kY.cL, .slice kY.qO (kOf f X).O.length kY.cO, .int .i64 (kOf f X).tu, .bool (kOf f X).sp, .slice kY.qE (kOf f X).E.length kY.cE] 43)).heap[w.heap.size]? = some (.cells #[.slice q0 n0 c0, .slice q1 n1 c1, .slice q2 n2 c2, .slice q3 n3 c3, .slice q4 n4 c4] 28)) := row_on HA15.out hal
  have H415b : Hid ((w15.alloc (.cells #[.slice kY.s.q0 kY.s.n0 kY.s.c0, .slice kY.s.q1 kY.s.n1 kY.s.c1, .slice kY.s.q2 kY.s.n2 kY.s.c2, .slice kY.s.q3 kY.s.n3 kY.s.c3, .slice kY.s.q4 kY.s.n4 kY.s.c4, .slice kY.qA (kOf f X).A.length kY.cA, .slice kY.qP (kOf f X).P.length kY.cP, .slice kY.qL (kOf f X).L.length kY.cL, .slice kY.qO (kOf f X).O.length kY.cO, .int .i64 (kOf f X).tu, .bool (kOf f X).sp, .slice kY.qE (kOf f X).E.length kY.cE] 43)).heap[g4]? = some (.cells #[.slice kS.s.q0 kS.s.n0 kS.s.c0, .slice kS.s.q1 kS.s.n1 kS.s.c1, .slice kS.s.q2 kS.s.n2 kS.s.c2, .slice kS.s.q3 kS.s.n3 kS.s.c3, .slice kS.s.q4 kS.s.n4 kS.s.c4, .slice kS.qA (kOf f X).A.length kS.cA, .slice kS.qP (kOf f X).P.length kS.cP, .slice kS.qL (kOf f X).L.length kS.cL, .slice kS.qO (kOf f X).O.length kS.cO, .int .i64 (kOf f X).tu, .bool (kOf f X).sp, .slice kS.qE (kOf f X).E.length kS.cE] 43)) := row_on H415.out hal
  have HS15b : Hid (Below w2.heap.size w2 (w15.alloc (.cells #[.slice kY.s.q0 kY.s.n0 kY.s.c0, .slice kY.s.q1 kY.s.n1 kY.s.c1, .slice kY.s.q2 kY.s.n2 kY.s.c2, .slice kY.s.q3 kY.s.n3 kY.s.c3, .slice kY.s.q4 kY.s.n4 kY.s.c4, .slice kY.qA (kOf f X).A.length kY.cA, .slice kY.qP (kOf f X).P.length kY.cP, .slice kY.qL (kOf f X).L.length kY.cL, .slice kY.qO (kOf f X).O.length kY.cO, .int .i64 (kOf f X).tu, .bool (kOf f X).sp, .slice kY.qE (kOf f X).E.length kY.cE] 43))) := bel_on (Nat.le_refl _) HS15.out hal
  have H715b : Hid ((w15.alloc (.cells #[.slice kY.s.q0 kY.s.n0 kY.s.c0, .slice kY.s.q1 kY.s.n1 kY.s.c1, .slice kY.s.q2 kY.s.n2 kY.s.c2, .slice kY.s.q3 kY.s.n3 kY.s.c3, .slice kY.s.q4 kY.s.n4 kY.s.c4, .slice kY.qA (kOf f X).A.length kY.cA, .slice kY.qP (kOf f X).P.length kY.cP, .slice kY.qL (kOf f X).L.length kY.cL, .slice kY.qO (kOf f X).O.length kY.cO, .int .i64 (kOf f X).tu, .bool (kOf f X).sp, .slice kY.qE (kOf f X).E.length kY.cE] 43)).heap[g7]? = some (.cells #[.slice kI.s.q0 kI.s.n0 kI.s.c0, .slice kI.s.q1 kI.s.n1 kI.s.c1, .slice kI.s.q2 kI.s.n2 kI.s.c2, .slice kI.s.q3 kI.s.n3 kI.s.c3, .slice kI.s.q4 kI.s.n4 kI.s.c4, .slice kI.qA (kOf f X).A.length kI.cA, .slice kI.qP (kOf f X).P.length kI.cP, .slice kI.qL (kOf f X).L.length kI.cL, .slice kI.qO (kOf f X).O.length kI.cO, .int .i64 (kOf f X).tu, .bool (kOf f X).sp, .slice kI.qE (kOf f X).E.length kI.cE] 43)) := row_on H715.out hal
  have HM15b : Hid (GM (w15.alloc (.cells #[.slice kY.s.q0 kY.s.n0 kY.s.c0, .slice kY.s.q1 kY.s.n1 kY.s.c1, .slice kY.s.q2 kY.s.n2 kY.s.c2, .slice kY.s.q3 kY.s.n3 kY.s.c3, .slice kY.s.q4 kY.s.n4 kY.s.c4, .slice kY.qA (kOf f X).A.length kY.cA, .slice kY.qP (kOf f X).P.length kY.cP, .slice kY.qL (kOf f X).L.length kY.cL, .slice kY.qO (kOf f X).O.length kY.cO, .int .i64 (kOf f X).tu, .bool (kOf f X).sp, .slice kY.qE (kOf f X).E.length kY.cE] 43)) lo7 kI f X r) := HM15.out.on hal
  have HH15b : Hid (GK (w15.alloc (.cells #[.slice kY.s.q0 kY.s.n0 kY.s.c0, .slice kY.s.q1 kY.s.n1 kY.s.c1, .slice kY.s.q2 kY.s.n2 kY.s.c2, .slice kY.s.q3 kY.s.n3 kY.s.c3, .slice kY.s.q4 kY.s.n4 kY.s.c4, .slice kY.qA (kOf f X).A.length kY.cA, .slice kY.qP (kOf f X).P.length kY.cP, .slice kY.qL (kOf f X).L.length kY.cL, .slice kY.qO (kOf f X).O.length kY.cO, .int .i64 (kOf f X).tu, .bool (kOf f X).sp, .slice kY.qE (kOf f X).E.length kY.cE] 43)) lo12 kY f X) := HH15.out.on hal
  clear HW15 HA15 H415 HS15 H715 HM15 HH15
  have HY15b : Hid ((w15.alloc (.cells #[.slice kY.s.q0 kY.s.n0 kY.s.c0, .slice kY.s.q1 kY.s.n1 kY.s.c1, .slice kY.s.q2 kY.s.n2 kY.s.c2, .slice kY.s.q3 kY.s.n3 kY.s.c3, .slice kY.s.q4 kY.s.n4 kY.s.c4, .slice kY.qA (kOf f X).A.length kY.cA, .slice kY.qP (kOf f X).P.length kY.cP, .slice kY.qL (kOf f X).L.length kY.cL, .slice kY.qO (kOf f X).O.length kY.cO, .int .i64 (kOf f X).tu, .bool (kOf f X).sp, .slice kY.qE (kOf f X).E.length kY.cE] 43)).heap[g12]? = some (.cells #[.slice kY.s.q0 kY.s.n0 kY.s.c0, .slice kY.s.q1 kY.s.n1 kY.s.c1, .slice kY.s.q2 kY.s.n2 kY.s.c2, .slice kY.s.q3 kY.s.n3 kY.s.c3, .slice kY.s.q4 kY.s.n4 kY.s.c4, .slice kY.qA (kOf f X).A.length kY.cA, .slice kY.qP (kOf f X).P.length kY.cP, .slice kY.qL (kOf f X).L.length kY.cL, .slice kY.qO (kOf f X).O.length kY.cO, .int .i64 (kOf f X).tu, .bool (kOf f X).sp, .slice kY.qE (kOf f X).E.length kY.cE] 43)) := by rw [← hg12]; exact heap_new w15 _
  clear hal
  have k415b := box12_cells H415b.out
  have k715b := box12_cells H715b.out
  have kY15b := box12_cells HY15b.out
  unfold KerV
  try dsimp only
  go_wp2_with fail
  try rw [hg12]
  refine (eqK kY kS (kOf f X) _ HH15b.out.rd (HRS.out.keep HS15b.out (Nat.le_refl _)) (smK_of HS.out HX.out.rd HH15b.out.rd)).mono ?_
  rintro e w16 ⟨rfl, hb16⟩
  have HW16 : Hid (Below w.heap.size w w16) := bel_on (Nat.le_refl _) HW15b.out hb16
  have HA16 : Hid (w16.heap[w.heap.size]? = some (.cells #[.slice q0 n0 c0, .slice q1 n1 c1, .slice q2 n2 c2, .slice q3 n3 c3, .slice q4 n4 c4] 28)) := row_on HA15b.out hb16
  have H416 : Hid (w16.heap[g4]? = some (.cells #[.slice kS.s.q0 kS.s.n0 kS.s.c0, .slice kS.s.q1 kS.s.n1 kS.s.c1, .slice kS.s.q2 kS.s.n2 kS.s.c2, .slice kS.s.q3 kS.s.n3 kS.s.c3, .slice kS.s.q4 kS.s.n4 kS.s.c4, .slice kS.qA (kOf f X).A.length kS.cA, .slice kS.qP (kOf f X).P.length kS.cP, .slice kS.qL (kOf f X).L.length kS.cL, .slice kS.qO (kOf f X).O.length kS.cO, .int .i64 (kOf f X).tu, .bool (kOf f X).sp, .slice kS.qE (kOf f X).E.length kS.cE] 43)) := row_on H415b.out hb16
  have HS16 : Hid (Below w2.heap.size w2 w16) := bel_on (Nat.le_refl _) HS15b.out hb16
  have H716 : Hid (w16.heap[g7]? = some (.cells #[.slice kI.s.q0 kI.s.n0 kI.s.c0, .slice kI.s.q1 kI.s.n1 kI.s.c1, .slice kI.s.q2 kI.s.n2 kI.s.c2, .slice kI.s.q3 kI.s.n3 kI.s.c3, .slice kI.s.q4 kI.s.n4 kI.s.c4, .slice kI.qA (kOf f X).A.length kI.cA, .slice kI.qP (kOf f X).P.length kI.cP, .slice kI.qL (kOf f X).L.length kI.cL, .slice kI.qO (kOf f X).O.length kI.cO, .int .i64 (kOf f X).tu, .bool (kOf f X).sp, .slice kI.qE (kOf f X).E.length kI.cE] 43)) := row_on H715b.out hb16
  have HM16 : Hid (GM w16 lo7 kI f X r) := HM15b.out.on hb16
  have HH16 : Hid (GK w16 lo12 kY f X) := HH15b.out.on hb16
  have HY16 : Hid (w16.heap[g12]? = some (.cells #[.slice kY.s.q0 kY.s.n0 kY.s.c0, .slice kY.s.q1 kY.s.n1 kY.s.c1, .slice kY.s.q2 kY.s.n2 kY.s.c2, .slice kY.s.q3 kY.s.n3 kY.s.c3, .slice kY.s.q4 kY.s.n4 kY.s.c4, .slice kY.qA (kOf f X).A.length kY.cA, .slice kY.qP (kOf f X).P.length kY.cP, .slice kY.qL (kOf f X).L.length kY.cL, .slice kY.qO (kOf f X).O.length kY.cO, .int .i64 (kOf f X).tu, .bool (kOf f X).sp, .slice kY.qE (kOf f X).E.length kY.cE] 43)) := row_on HY15b.out hb16
  clear HW15b HA15b H415b HS15b H715b HM15b HH15b HY15b
  clear k415b k715b kY15b
  have k716 := box12_cells H716.out
  clear hb16
  go_wp2_with fail
  refine (heldG kI f X lo7 r HF.out HS.out.b _ HM16.out).mono ?_
  rintro e w17 ⟨rfl, hb17⟩
  have HWZ : Hid (Below w.heap.size w w17) := bel_on (Nat.le_refl _) HW16.out hb17
  clear hb17
  go_wp2
  go_ret
  exact ⟨rfl, HWZ.out⟩
end Go.Proofs.YtphijlknefgkiaaGreatDoor.fnExactKernelNew
