/-
  Proved: the tied card: for every list of bytes the call of FnSetups returns true: a drawn right set-up comes back from its bytes, its fault is told as the specification tells it, and drawn bytes that are one are the bytes of it (lists of more than 1048576 bytes the law itself lets by), and the argument reads as before. Conditions: errors.errorType holds what its own initialiser lays, the handle of the type error (the card ties it to the text of the pruned copy of the project).
-/
import Derived.Test.YtadbekhekggpkaaGreatDoorAsX
import Derived.Test.YtadbekhekggpkaaGreatDoorRows
import Derived.Lib.LaidTab
import Derived.OpenShut
import Derived.LaidHandle
import Derived.LaidLaws
import Derived.Stop.Joined
import Derived.Test.YtadbekhekggpkaaGreatDoorZG
import Derived.Test.YtadbekhekggpkaaGreatDoorReadT
import Derived.Test.YtadbekhekggpkaaGreatDoorWC
import Derived.Test.YtadbekhekggpkaaGreatDoorFaultS
import Derived.Test.YtadbekhekggpkaaGreatDoorDraw
import Derived.Test.YtadbekhekggpkaaGreatDoorCards
import Derived.Test.YtadbekhekggpkaaGreatDoorTie
import Derived.OpenVars
import Derived.ChangeVars
import Derived.ShutString
import Derived.ChangeOld
import Derived.Below
import Derived.Deep.DeepHandedRow
namespace Go.Proofs.YtadbekhekggpkaaGreatDoor
open Go.ChangeShapes Go.WideShapes Go.ChangeAt Go.RowKit

theorem h_et : Tryz.prog.globalNamed "errors.errorType" = some 0 := by kernel_rfl
theorem h_oneRow : ((List.range 214).filter fun t => Tryz.prog.rowNamed t [101, 114, 114, 111, 114]) = [67] := by kernel_rfl
theorem h_size : Tryz.prog.types.size = 214 := by kernel_rfl
theorem handle_of {W : World} (h : laidMetH Tryz.prog [("errors.errorType", Rows.laid_errors_errorType)] W) : Hnd W := by
  have h' : laidMet Tryz.prog [] W ∧ handlesMet Tryz.prog [("errors.errorType", Rows.laid_errors_errorType)] W := h
  obtain ⟨name, u, ty, e1, e2, e3, e4, e5⟩ := h'.2 _ (List.mem_singleton.2 rfl)
  have en : name = [101, 114, 114, 111, 114] := (Option.some.inj e1).symm
  subst en
  have hu : some u = some 151 := e2.symm.trans (by kernel_rfl)
  obtain rfl := (Option.some.inj hu).symm
  have hm : ty ∈ (List.range 214).filter fun t => Tryz.prog.rowNamed t [101, 114, 114, 111, 114] := List.mem_filter.2 ⟨List.mem_range.2 (by rw [← h_size]; exact e3), e4⟩
  rw [h_oneRow] at hm
  obtain rfl := List.mem_singleton.1 hm
  have hh : typeHandle Tryz.prog 67 = .pointer (some ⟨1, 67, none⟩) := by kernel_rfl
  rw [hh] at e5
  show W.cell? _ = _
  simpa using World.var?_cell h_et e5 0
def setRowH (cs : Array Value) : Obj → Obj
  | .cells _ t frozen => .cells cs t frozen
  | o => o
/-- a world whose variable holds the handle -/
def layH (w : World) : World := { w with heap := w.heap.modify 0 (setRowH #[.iface 151 (.agg #[.pointer (some ⟨1, 67, none⟩)])]) }
end Go.Proofs.YtadbekhekggpkaaGreatDoor

namespace Go.Proofs.YtadbekhekggpkaaGreatDoor
open Go.RowKit Go.PlainAid
set_option linter.unusedVariables false

theorem bytesS_le : ∀ {l : List ByteArray}, (∀ x ∈ l, x.size ≤ 20000) → S.bytesS l ≤ 20000 * l.length
  | [], _ => by simp [S.bytesS]
  | x :: l, h => by
    have h1 := bytesS_le (l := l) (fun y hy => h y (List.mem_cons_of_mem _ hy))
    have h2 := h x List.mem_cons_self
    simp only [S.bytesS, List.length_cons]
    omega
theorem ParsedX.sm {t : ByteArray} {X : SX} {w : World} {s : SH} (h : ParsedX t X) (hr : RdX w s X) : SmX s X := by
  have hb := bytesS_le h.z
  have h0 := h.r
  have h1 := h.w
  have h2 := h.o
  have h3 := h.u
  have h4 := h.s
  exact ⟨by rw [← hr.l0]; omega, by rw [← hr.l1]; omega, by rw [← hr.l2]; omega, by rw [← hr.l3]; omega, by rw [← hr.l4]; omega, by omega⟩
theorem ParsedX.wf {t : ByteArray} {X : SX} (h : ParsedX t X) : WfU X.U := fun j hj => h.f _ (List.getElem_mem hj)

set_option maxRecDepth 100000 in
set_option maxHeartbeats 4000000 in
theorem readI (t : ByteArray) (ht : t.size ≤ 1048576) (w : World) (hg : Hnd w) :
    Calls Tryz.prog 8 #[.string t] w fun e w' => ∃ (s : SH) (ok : Bool), e = .returned (.tuple #[SetV s, .bool ok]) ∧ ReadR t w w' s ok ∧ Below w.heap.size w w' := by
  have HG : Hid (Hnd w) := hg
  have HB0 : Hid (Below w.heap.size w (w.alloc (.cells #[.slice none 0 0, .slice none 0 0, .slice none 0 0, .slice none 0 0, .slice none 0 0] 30))) := (Below.refl _ _).alloc (Nat.le_refl _) _
  have HZ0 : Hid ((w.alloc (.cells #[.slice none 0 0, .slice none 0 0, .slice none 0 0, .slice none 0 0, .slice none 0 0] 30)).heap[w.heap.size]? = some (.cells #[.slice none 0 0, .slice none 0 0, .slice none 0 0, .slice none 0 0, .slice none 0 0] 30)) := heap_new w _
  clear hg
  unfold SetV
  go_enter Tryz.func8, Tryz.ntmps8
  go_wp2_with fail
  refine (setupIn_I t ht _).mono ?_
  rintro e w1 (⟨s, X, rfl, hP, hcap, ho, hb⟩ | ⟨rfl, hP, hb⟩)
  · obtain ⟨q0, n0, c0, q1, n1, c1, q2, n2, c2, q3, n3, c3, q4, n4, c4⟩ := s
    have HPX : Hid (ParsedX t X) := parse_sound hP
    have HPP : Hid (parse t = some X) := hP
    have HCAP : Hid (n0 ≤ c0) := hcap
    have HZ1 : Hid (w1.heap[w.heap.size]? = some (.cells #[.slice none 0 0, .slice none 0 0, .slice none 0 0, .slice none 0 0, .slice none 0 0] 30)) := row_on HZ0.out hb
    have HB1 : Hid (Below w.heap.size w w1) := bel_on (Nat.le_refl _) HB0.out hb
    have HO1 : Hid (OwnX w1 w.heap.size ⟨q0, n0, c0, q1, n1, c1, q2, n2, c2, q3, n3, c3, q4, n4, c4⟩ X) := ho.mono (by simp)
    have hal : Below w1.heap.size w1 (w1.alloc (.cells #[.slice q0 n0 c0, .slice q1 n1 c1, .slice q2 n2 c2, .slice q3 n3 c3, .slice q4 n4 c4] 30)) := (Below.refl _ _).alloc (Nat.le_refl _) _
    have HZ2 : Hid ((w1.alloc (.cells #[.slice q0 n0 c0, .slice q1 n1 c1, .slice q2 n2 c2, .slice q3 n3 c3, .slice q4 n4 c4] 30)).heap[w.heap.size]? = some (.cells #[.slice none 0 0, .slice none 0 0, .slice none 0 0, .slice none 0 0, .slice none 0 0] 30)) := row_on HZ1.out hal
    have HB2 : Hid (Below w.heap.size w (w1.alloc (.cells #[.slice q0 n0 c0, .slice q1 n1 c1, .slice q2 n2 c2, .slice q3 n3 c3, .slice q4 n4 c4] 30))) := bel_on (Nat.le_refl _) HB1.out hal
    have HO2 : Hid (OwnX (w1.alloc (.cells #[.slice q0 n0 c0, .slice q1 n1 c1, .slice q2 n2 c2, .slice q3 n3 c3, .slice q4 n4 c4] 30)) w.heap.size ⟨q0, n0, c0, q1, n1, c1, q2, n2, c2, q3, n3, c3, q4, n4, c4⟩ X) := HO1.out.bel hal
    have HX2 : Hid ((w1.alloc (.cells #[.slice q0 n0 c0, .slice q1 n1 c1, .slice q2 n2 c2, .slice q3 n3 c3, .slice q4 n4 c4] 30)).heap[w1.heap.size]? = some (.cells #[.slice q0 n0 c0, .slice q1 n1 c1, .slice q2 n2 c2, .slice q3 n3 c3, .slice q4 n4 c4] 30)) := heap_new w1 _
    have kx := boxO_cells HX2.out
    obtain ⟨f, hf⟩ := fault_ex X
    have HF : Hid (FaultX X f) := hf
    clear hP hcap ho hb HZ0 HB0 HZ1 HB1 HO1 hal hf
    unfold SetV
    dsimp only
    go_wp2_with fail
    refine (faultI ⟨q0, n0, c0, q1, n1, c1, q2, n2, c2, q3, n3, c3, q4, n4, c4⟩ X f HF.out _ HO2.out.rd (HPX.out.sm HO2.out.rd) HPX.out.wf HCAP.out (HG.out.on HB2.out)).mono ?_
    rintro e w3 ⟨rfl, hb⟩
    have HZ3 : Hid (w3.heap[w.heap.size]? = some (.cells #[.slice none 0 0, .slice none 0 0, .slice none 0 0, .slice none 0 0, .slice none 0 0] 30)) := row_on HZ2.out hb
    have HB3 : Hid (Below w.heap.size w w3) := bel_on (Nat.le_refl _) HB2.out hb
    have HO3 : Hid (OwnX w3 w.heap.size ⟨q0, n0, c0, q1, n1, c1, q2, n2, c2, q3, n3, c3, q4, n4, c4⟩ X) := HO2.out.bel hb
    have HX3 : Hid (w3.heap[w1.heap.size]? = some (.cells #[.slice q0 n0 c0, .slice q1 n1 c1, .slice q2 n2 c2, .slice q3 n3 c3, .slice q4 n4 c4] 30)) := row_on HX2.out hb
    clear hb HZ2 HB2 HO2 HX2 kx
    have kz := boxO_cells HZ3.out
    by_cases hf0 : f = 0
    · have HRX : Hid (RightX X) := (fault_right HF.out).1 hf0
      subst hf0
      have kx := boxO_cells HX3.out
      have HE : Hid (ReadR t w (((((w3.setCell ⟨w.heap.size, 0, none⟩ (.slice q0 n0 c0)).setCell ⟨w.heap.size, 1, none⟩ (.slice q1 n1 c1)).setCell ⟨w.heap.size, 2, none⟩ (.slice q2 n2 c2)).setCell ⟨w.heap.size, 3, none⟩ (.slice q3 n3 c3)).setCell ⟨w.heap.size, 4, none⟩ (.slice q4 n4 c4)) ⟨q0, n0, c0, q1, n1, c1, q2, n2, c2, q3, n3, c3, q4, n4, c4⟩ true) := .inl ⟨X, HRX.out, HPX.out.txt, rfl, HO3.out.put5 (ne_of HO3.out HZ3.out (by decide))⟩
      have HBE : Hid (Below w.heap.size w (((((w3.setCell ⟨w.heap.size, 0, none⟩ (.slice q0 n0 c0)).setCell ⟨w.heap.size, 1, none⟩ (.slice q1 n1 c1)).setCell ⟨w.heap.size, 2, none⟩ (.slice q2 n2 c2)).setCell ⟨w.heap.size, 3, none⟩ (.slice q3 n3 c3)).setCell ⟨w.heap.size, 4, none⟩ (.slice q4 n4 c4))) := (((((HB3.out.setCell (Nat.le_refl _) _).setCell (Nat.le_refl _) _).setCell (Nat.le_refl _) _).setCell (Nat.le_refl _) _).setCell (Nat.le_refl _) _)
      clear HF HRX HPX HPP HZ3 HB3 HO3 HX3
      go_wp2
      refine bodyPost_ret (v := .tuple #[.agg #[.slice q0 n0 c0, .slice q1 n1 c1, .slice q2 n2 c2, .slice q3 n3 c3, .slice q4 n4 c4], .bool true]) (by simp [results, Tryz.results8, go_sem, kz]) rfl ⟨⟨q0, n0, c0, q1, n1, c1, q2, n2, c2, q3, n3, c3, q4, n4, c4⟩, true, rfl, HE.out, HBE.out⟩
    · have hne : (f != 0) = true := by simpa using hf0
      have HE : Hid (ReadR t w (((((w3.setCell ⟨w.heap.size, 0, none⟩ (.slice none 0 0)).setCell ⟨w.heap.size, 1, none⟩ (.slice none 0 0)).setCell ⟨w.heap.size, 2, none⟩ (.slice none 0 0)).setCell ⟨w.heap.size, 3, none⟩ (.slice none 0 0)).setCell ⟨w.heap.size, 4, none⟩ (.slice none 0 0)) ⟨none, 0, 0, none, 0, 0, none, 0, 0, none, 0, 0, none, 0, 0⟩ false) := .inr ⟨fun Y hY hT => by
        have h1 := parse_whole hY hT
        rw [HPP.out] at h1
        cases h1
        exact hf0 ((fault_right HF.out).2 hY), rfl, rfl⟩
      have HBE : Hid (Below w.heap.size w (((((w3.setCell ⟨w.heap.size, 0, none⟩ (.slice none 0 0)).setCell ⟨w.heap.size, 1, none⟩ (.slice none 0 0)).setCell ⟨w.heap.size, 2, none⟩ (.slice none 0 0)).setCell ⟨w.heap.size, 3, none⟩ (.slice none 0 0)).setCell ⟨w.heap.size, 4, none⟩ (.slice none 0 0))) := (((((HB3.out.setCell (Nat.le_refl _) _).setCell (Nat.le_refl _) _).setCell (Nat.le_refl _) _).setCell (Nat.le_refl _) _).setCell (Nat.le_refl _) _)
      clear HF HPX HPP HZ3 HB3 HO3 HX3 hf0
      go_wp2
      refine bodyPost_ret (v := .tuple #[.agg #[.slice none 0 0, .slice none 0 0, .slice none 0 0, .slice none 0 0, .slice none 0 0], .bool false]) (by simp [results, Tryz.results8, go_sem, kz]) rfl ⟨⟨none, 0, 0, none, 0, 0, none, 0, 0, none, 0, 0, none, 0, 0⟩, false, rfl, HE.out, HBE.out⟩
  · have HPP : Hid (parse t = none) := hP
    have HZ1 : Hid (w1.heap[w.heap.size]? = some (.cells #[.slice none 0 0, .slice none 0 0, .slice none 0 0, .slice none 0 0, .slice none 0 0] 30)) := row_on HZ0.out hb
    have HB1 : Hid (Below w.heap.size w w1) := bel_on (Nat.le_refl _) HB0.out hb
    have hal : Below w1.heap.size w1 (w1.alloc (.cells #[.slice none 0 0, .slice none 0 0, .slice none 0 0, .slice none 0 0, .slice none 0 0] 30)) := (Below.refl _ _).alloc (Nat.le_refl _) _
    have HZ2 : Hid ((w1.alloc (.cells #[.slice none 0 0, .slice none 0 0, .slice none 0 0, .slice none 0 0, .slice none 0 0] 30)).heap[w.heap.size]? = some (.cells #[.slice none 0 0, .slice none 0 0, .slice none 0 0, .slice none 0 0, .slice none 0 0] 30)) := row_on HZ1.out hal
    have HB2 : Hid (Below w.heap.size w (w1.alloc (.cells #[.slice none 0 0, .slice none 0 0, .slice none 0 0, .slice none 0 0, .slice none 0 0] 30))) := bel_on (Nat.le_refl _) HB1.out hal
    have kz := boxO_cells HZ2.out
    have W2 := (w1.alloc (.cells #[.slice none 0 0, .slice none 0 0, .slice none 0 0, .slice none 0 0, .slice none 0 0] 30))
    have HE : Hid (ReadR t w ((((((w1.alloc (.cells #[.slice none 0 0, .slice none 0 0, .slice none 0 0, .slice none 0 0, .slice none 0 0] 30)).setCell ⟨w.heap.size, 0, none⟩ (.slice none 0 0)).setCell ⟨w.heap.size, 1, none⟩ (.slice none 0 0)).setCell ⟨w.heap.size, 2, none⟩ (.slice none 0 0)).setCell ⟨w.heap.size, 3, none⟩ (.slice none 0 0)).setCell ⟨w.heap.size, 4, none⟩ (.slice none 0 0)) ⟨none, 0, 0, none, 0, 0, none, 0, 0, none, 0, 0, none, 0, 0⟩ false) := .inr ⟨fun Y hY hT => by
      have h1 := parse_whole hY hT
      rw [HPP.out] at h1
      exact (by cases h1), rfl, rfl⟩
    have HBE : Hid (Below w.heap.size w ((((((w1.alloc (.cells #[.slice none 0 0, .slice none 0 0, .slice none 0 0, .slice none 0 0, .slice none 0 0] 30)).setCell ⟨w.heap.size, 0, none⟩ (.slice none 0 0)).setCell ⟨w.heap.size, 1, none⟩ (.slice none 0 0)).setCell ⟨w.heap.size, 2, none⟩ (.slice none 0 0)).setCell ⟨w.heap.size, 3, none⟩ (.slice none 0 0)).setCell ⟨w.heap.size, 4, none⟩ (.slice none 0 0))) := (((((HB2.out.setCell (Nat.le_refl _) _).setCell (Nat.le_refl _) _).setCell (Nat.le_refl _) _).setCell (Nat.le_refl _) _).setCell (Nat.le_refl _) _)
    clear hP hb HZ0 HB0 HZ1 HB1 hal HZ2 HB2 HPP W2
    go_wp2
    refine bodyPost_ret (v := .tuple #[.agg #[.slice none 0 0, .slice none 0 0, .slice none 0 0, .slice none 0 0, .slice none 0 0], .bool false]) (by simp [results, Tryz.results8, go_sem, kz]) rfl ⟨⟨none, 0, 0, none, 0, 0, none, 0, 0, none, 0, 0, none, 0, 0⟩, false, rfl, HE.out, HBE.out⟩
end Go.Proofs.YtadbekhekggpkaaGreatDoor

namespace Go.Proofs.YtadbekhekggpkaaGreatDoor
open Go.RowKit Go.PlainAid
set_option linter.unusedVariables false
set_option linter.unusedSimpArgs false

theorem pT_le : ∀ {l : List (Int × Int)}, (∀ j (h : j < l.length), (0 ≤ (l[j]).1 ∧ (l[j]).1 ≤ 1000) ∧ (0 ≤ (l[j]).2 ∧ (l[j]).2 ≤ 1000)) → (pT l).size ≤ 5010 * l.length
  | [], _ => by simp [pT]; rfl
  | r :: t, h => by
    obtain ⟨a, b⟩ := h 0 (by simp)
    have h1 := pT_le (l := t) (fun j hj => h (j + 1) (by simp; omega))
    have ha := vX_size a.1 a.2
    have hb := vX_size b.1 b.2
    have e : (pT (r :: t)).size = (vX r.1).size + (vX r.2).size + (pT t).size := by simp only [pT, ba_size]
    rw [e, List.length_cons]
    simp only [List.getElem_cons_zero] at ha hb
    omega
theorem oT_le : ∀ {l : List Prt}, (∀ j (h : j < l.length), (0 ≤ (l[j]).1 ∧ (l[j]).1 ≤ 1000) ∧ (0 ≤ (l[j]).2.1 ∧ (l[j]).2.1 ≤ 1000) ∧ (0 ≤ (l[j]).2.2.1 ∧ (l[j]).2.2.1 ≤ 1000) ∧ (0 ≤ (l[j]).2.2.2.1 ∧ (l[j]).2.2.2.1 ≤ 1000) ∧ (0 ≤ (l[j]).2.2.2.2 ∧ (l[j]).2.2.2.2 ≤ 1000)) → (oT l).size ≤ 5010 * l.length
  | [], _ => by simp [oT]; rfl
  | r :: t, h => by
    obtain ⟨a, b, c, d, f⟩ := h 0 (by simp)
    have h1 := oT_le (l := t) (fun j hj => h (j + 1) (by simp; omega))
    have ha := vX_size a.1 a.2
    have hb := vX_size b.1 b.2
    have hc := vX_size c.1 c.2
    have hd := vX_size d.1 d.2
    have hf := vX_size f.1 f.2
    have e : (oT (r :: t)).size = (vX r.1).size + (vX r.2.1).size + (vX r.2.2.1).size + (vX r.2.2.2.1).size + (vX r.2.2.2.2).size + (oT t).size := by simp only [oT, ba_size]
    rw [e, List.length_cons]
    simp only [List.getElem_cons_zero] at ha hb hc hd hf
    omega
theorem uT_le : ∀ {l : List Rule}, (∀ j (h : j < l.length), (0 ≤ (l[j]).1 ∧ (l[j]).1 ≤ 1000) ∧ (0 ≤ (l[j]).2.1 ∧ (l[j]).2.1 ≤ 1000) ∧ (0 ≤ (l[j]).2.2 ∧ (l[j]).2.2 ≤ 1000)) → (uT l).size ≤ 5010 * l.length
  | [], _ => by simp [uT]; rfl
  | r :: t, h => by
    obtain ⟨a, b, c⟩ := h 0 (by simp)
    have h1 := uT_le (l := t) (fun j hj => h (j + 1) (by simp; omega))
    have ha := vX_size a.1 a.2
    have hb := vX_size b.1 b.2
    have hc := vX_size c.1 c.2
    have e : (uT (r :: t)).size = (vX r.1).size + (vX r.2.1).size + (vX r.2.2).size + (uT t).size := by simp only [uT, ba_size]
    rw [e, List.length_cons]
    simp only [List.getElem_cons_zero] at ha hb hc
    omega
theorem sT_le : ∀ {l : List ByteArray}, (∀ j (h : j < l.length), (l[j]).size ≤ 120) → (sT l).size ≤ 5010 * l.length
  | [], _ => by simp [sT]; rfl
  | r :: t, h => by
    have a := h 0 (by simp)
    have h1 := sT_le (l := t) (fun j hj => h (j + 1) (by simp; omega))
    simp only [List.getElem_cons_zero] at a
    have ha := vX_size (n := (r.size : Int)) (by omega) (by omega)
    have e : (sT (r :: t)).size = (vX r.size).size + r.size + (sT t).size := by simp only [sT, ba_size]
    rw [e, List.length_cons]
    omega
theorem txt_le {X : SX} (h : RightX X) : (txt X).size ≤ 400000 := by
  obtain ⟨⟨r1, r2⟩, ⟨w1, w2⟩, ⟨o1, o2⟩, ⟨u1, u2⟩, s1, s2⟩ := h.num
  have a := pT_le r2
  have b := pT_le w2
  have c := oT_le o2
  have d := uT_le u2
  have e := sT_le s2
  have v1 := vX_size (n := (X.R.length : Int)) (by omega) (by omega)
  have v2 := vX_size (n := (X.W.length : Int)) (by omega) (by omega)
  have v3 := vX_size (n := (X.O.length : Int)) (by omega) (by omega)
  have v4 := vX_size (n := (X.U.length : Int)) (by omega) (by omega)
  simp only [txt, tD, tC, tB, tA, ba_size]
  omega
theorem textX_le {X : SX} {t : ByteArray} {b : Bool} (h : TextX X t b) : t.size ≤ 400000 := by
  rcases h with ⟨h, rfl, _⟩ | ⟨_, rfl, _⟩
  · exact txt_le h
  · decide
/-- what a text tells -/
def ReadZ (t : ByteArray) (ok : Bool) (Y : SX) : Prop := (RightX Y ∧ txt Y = t ∧ ok = true) ∨ ((∀ Y', RightX Y' → txt Y' ≠ t) ∧ ok = false ∧ Y = ⟨[], [], [], [], []⟩)
theorem own_noneZ (W : World) (B : Nat) : OwnX W B ⟨none, 0, 0, none, 0, 0, none, 0, 0, none, 0, 0, none, 0, 0⟩ ⟨[], [], [], [], []⟩ := ⟨World.ownsRow_nil _ _ _ _, World.ownsRow_nil _ _ _ _, World.ownsRow_nil _ _ _ _, World.ownsRow_nil _ _ _ _, World.ownsRow_nil _ _ _ _⟩
theorem readZ_of {t : ByteArray} {w W : World} {s : SH} {ok : Bool} (h : ReadR t w W s ok) : ∃ Y, ReadZ t ok Y ∧ OwnX W w.heap.size s Y := by
  rcases h with ⟨Y, hY, hT, rfl, ho⟩ | ⟨hno, rfl, rfl⟩
  · exact ⟨Y, .inl ⟨hY, hT, rfl⟩, ho⟩
  · exact ⟨⟨[], [], [], [], []⟩, .inr ⟨hno, rfl, rfl⟩, own_noneZ _ _⟩
theorem readZ_with {t : ByteArray} {w W : World} {s : SH} {ok ok' : Bool} {Y : SX} (hY : ReadZ t ok Y) (h : ReadR t w W s ok') : ok' = ok := by
  rcases hY with ⟨h1, h2, rfl⟩ | ⟨h1, rfl, rfl⟩
  · rcases h with ⟨Y', hY', hT', rfl, ho'⟩ | ⟨hno', _, _⟩
    · rfl
    · exact absurd h2 (hno' Y h1)
  · rcases h with ⟨Y', hY', hT', _, _⟩ | ⟨_, rfl, rfl⟩
    · exact absurd hT' (h1 Y' hY')
    · rfl
theorem readZ_any {t : ByteArray} {ok : Bool} {Y : SX} {W : World} {s : SH} (h : ReadZ t ok Y) (hr : RdX W s Y) : AnyX s Y := by
  rcases h with ⟨h1, _, _⟩ | ⟨_, _, rfl⟩
  · have hb := bytes_leY (l := Y.S) (k := 120) h1.num.s.2
    obtain ⟨⟨r1, _⟩, ⟨w1, _⟩, ⟨o1, _⟩, ⟨u1, _⟩, s1, _⟩ := h1.num
    exact ⟨by rw [← hr.l0]; omega, by rw [← hr.l1]; omega, by rw [← hr.l2]; omega, by rw [← hr.l3]; omega, by rw [← hr.l4]; omega, by omega, right_wfY h1⟩
  · exact ⟨by rw [← hr.l0]; decide, by rw [← hr.l1]; decide, by rw [← hr.l2]; decide, by rw [← hr.l3]; decide, by rw [← hr.l4]; decide, by simp [S.bytesS], fun j hj => by simp at hj⟩
theorem readZ_text {t t2 : ByteArray} {ok b : Bool} {Y : SX} (h : ReadZ t ok Y) (hx : TextX Y t2 b) (hok : ok = true) : t2 = t := by
  rcases h with ⟨h1, h2, _⟩ | ⟨_, h2, _⟩
  · rcases hx with ⟨_, rfl, _⟩ | ⟨hn, _, _⟩
    · exact h2
    · exact absurd h1 hn
  · rw [h2] at hok; cases hok
theorem readZ_back {X Y : SX} {t : ByteArray} {ok : Bool} (hx : TextX X t true) (h : ReadZ t ok Y) : ok = true := by
  rcases hx with ⟨h1, rfl, _⟩ | ⟨_, _, h1⟩
  · rcases h with ⟨_, _, h2⟩ | ⟨hn, _, _⟩
    · exact h2
    · exact absurd rfl (hn X h1)
  · cases h1

set_option maxRecDepth 100000 in
set_option maxHeartbeats 1000000 in
theorem drawST (a : Option Addr) (len cap : Nat) (w : World) (hcode : CodeOk w w.heap.size a len) :
    Calls Tryz.prog 6 #[.slice a len cap] w fun e w' => ∃ (s : SH) (X : SX), e = .returned (SetV s) ∧ AnyX s X ∧ s.n0 ≤ s.c0 ∧ OwnX w' w.heap.size s X ∧ Below w.heap.size w w' := by
  have HB0 : Hid (Below w.heap.size w (w.alloc (.cells #[nilV, nilV, nilV, nilV, nilV] 30))) := (Below.refl _ _).alloc (Nat.le_refl _) _
  have HC : Hid (CodeOk (w.alloc (.cells #[nilV, nilV, nilV, nilV, nilV] 30)) w.heap.size a len) := code_below hcode HB0.out
  have HZ : Hid ((w.alloc (.cells #[nilV, nilV, nilV, nilV, nilV] 30)).heap[w.heap.size]? = some (.cells #[nilV, nilV, nilV, nilV, nilV] 30)) := heap_new w _
  clear hcode
  unfold SetV
  go_enter Tryz.func6, Tryz.ntmps6
  go_wp2_with fail
  refine (new23 w.heap.size a len cap _ HC.out (by simp)).mono ?_
  rintro e w1 ⟨C, rfl, hC, hcur, hcode, hb1⟩
  have hC' : w.heap.size < C := by have : (w.alloc (.cells #[nilV, nilV, nilV, nilV, nilV] 30)).heap.size = w.heap.size + 1 := by simp
                                   omega
  have HB1 : Hid (Below w.heap.size w w1) := bel_on (Nat.le_refl _) HB0.out hb1
  have HZ1 : Hid (w1.heap[w.heap.size]? = some (.cells #[nilV, nilV, nilV, nilV, nilV] 30)) := row_on HZ.out hb1
  clear hb1 HC HB0 HZ hC
  have s1 := HB1.out.size
  go_wp2_with fail
  refine (anySet C w.heap.size a len cap _ hcur (by omega) hcode).mono ?_
  rintro e w2 ⟨s, X, rfl, hX, hcap, hown, hD⟩
  obtain ⟨q0, n0, c0, q1, n1, c1, q2, n2, c2, q3, n3, c3, q4, n4, c4⟩ := s
  have HX : Hid (AnyX ⟨q0, n0, c0, q1, n1, c1, q2, n2, c2, q3, n3, c3, q4, n4, c4⟩ X ∧ n0 ≤ c0) := ⟨hX, hcap⟩
  have HZ2 : Hid (w2.heap[w.heap.size]? = some (.cells #[nilV, nilV, nilV, nilV, nilV] 30)) := P.row_drawn HZ1.out hD.2.2 (by omega)
  have HO : Hid (OwnX w2 w.heap.size ⟨q0, n0, c0, q1, n1, c1, q2, n2, c2, q3, n3, c3, q4, n4, c4⟩ X) := ⟨own_mono hown.o0 s1, own_mono hown.o1 s1, own_mono hown.o2 s1, own_mono hown.o3 s1, own_mono hown.o4 s1⟩
  have HB2 : Hid (Below w.heap.size w w2) := drawn_below HB1.out (Nat.le_of_lt hC') hD
  have kz := P.box5_cells HZ2.out
  clear hD hX hcap hown HB1 HZ1
  unfold SetV
  dsimp only
  go_wp2
  refine bodyPost_ret (v := .agg #[.slice q0 n0 c0, .slice q1 n1 c1, .slice q2 n2 c2, .slice q3 n3 c3, .slice q4 n4 c4]) (by simp [results, Tryz.results6, go_sem, kz]) rfl ⟨⟨q0, n0, c0, q1, n1, c1, q2, n2, c2, q3, n3, c3, q4, n4, c4⟩, X, rfl, HX.out.1, HX.out.2, ⟨own_set5 HO.out.o0 (own_far HO.out.o0 HZ2.out (by decide)), own_set5 HO.out.o1 (own_far HO.out.o1 HZ2.out (by decide)), own_set5 HO.out.o2 (own_far HO.out.o2 HZ2.out (by decide)), own_set5 HO.out.o3 (own_far HO.out.o3 HZ2.out (by decide)), own_set5 HO.out.o4 (own_far HO.out.o4 HZ2.out (by decide))⟩, ((((HB2.out.setCell (Nat.le_refl _) _).setCell (Nat.le_refl _) _).setCell (Nat.le_refl _) _).setCell (Nat.le_refl _) _).setCell (Nat.le_refl _) _⟩

set_option maxRecDepth 100000 in
set_option maxHeartbeats 1000000 in
theorem drawRS (a : Option Addr) (len cap : Nat) (w : World) (hcode : CodeOk w w.heap.size a len) :
    Calls Tryz.prog 11 #[.slice a len cap] w fun e w' => ∃ u : ByteArray, e = .returned (.string u) ∧ u.size ≤ 400001 ∧ Below w.heap.size w w' := by
  have HC : Hid (CodeOk w w.heap.size a len) := hcode
  clear hcode
  go_enter Tryz.func11, Tryz.ntmps11
  go_wp2_with fail
  refine (new23 w.heap.size a len cap _ HC.out (Nat.le_refl _)).mono ?_
  rintro e w1 ⟨C, rfl, hC, hcur, hcode, hb1⟩
  have HB1 : Hid (Below w.heap.size w w1) := hb1
  have s1 := hb1.size
  have hlt := cur_lt hcur
  clear hb1 HC
  go_wp2_with fail
  refine (anySet C w.heap.size a len cap _ hcur hC hcode).mono ?_
  rintro e w2 ⟨s, X, rfl, hX, hcap, hown, hD⟩
  obtain ⟨q0, n0, c0, q1, n1, c1, q2, n2, c2, q3, n3, c3, q4, n4, c4⟩ := s
  obtain ⟨tx, b, ht⟩ := text_ex X
  have HT : Hid (TextX X tx b) := ht
  have HX : Hid (AnyX ⟨q0, n0, c0, q1, n1, c1, q2, n2, c2, q3, n3, c3, q4, n4, c4⟩ X) := hX
  have HR : Hid (RdX w2 ⟨q0, n0, c0, q1, n1, c1, q2, n2, c2, q3, n3, c3, q4, n4, c4⟩ X) := hown.rd
  have HD2 : Hid (Drawn w1 w2 C w.heap.size a len cap) := hD
  clear hX hcap hown ht hD hcode hcur
  unfold SetV
  dsimp only
  go_wp2_with fail
  refine (textS ⟨q0, n0, c0, q1, n1, c1, q2, n2, c2, q3, n3, c3, q4, n4, c4⟩ X tx b HT.out _ HR.out HX.out.sm HX.out.u).mono ?_
  rintro e w3 ⟨rfl, hb3⟩
  have HD3 : Hid (Drawn w1 w3 C w.heap.size a len cap) := drawn_bel HD2.out hb3 (by omega)
  have HTS : Hid (tx.size ≤ 400000) := textX_le HT.out
  clear hb3 HD2 HR HX HT
  go_wp2_with fail
  refine (P.onceR C w.heap.size a len cap 2 (by omega) (by omega) _ HD3.out.1 hC HD3.out.2.1).mono ?_
  rintro e w4 ⟨bo, rfl, hD⟩
  have HD4 : Hid (Drawn w1 w4 C w.heap.size a len cap) := drawn_trans HD3.out hD
  clear hD HD3
  cases bo
  · have HE : Hid (Below w.heap.size w w4) := drawn_below HB1.out hC HD4.out
    clear HD4
    go_wp2
    go_ret
    exact ⟨tx, rfl, Nat.le_succ_of_le HTS.out, HE.out⟩
  · go_wp2_with fail
    refine (spoiltD C w.heap.size a len cap tx (Nat.le_trans HTS.out (by decide)) _ HD4.out.1 hC HD4.out.2.1).mono ?_
    rintro e w5 ⟨u, rfl, hu, hD⟩
    have HE : Hid (Below w.heap.size w w5) := drawn_below HB1.out hC (drawn_trans HD4.out hD)
    have HU : Hid (u.size ≤ 400001) := Nat.le_trans hu (Nat.succ_le_succ HTS.out)
    clear HD4 hD hu
    go_wp2
    go_ret
    exact ⟨u, rfl, HU.out, HE.out⟩

theorem code_here {w W : World} {a : Option Addr} {len : Nat} (h : CodeOk w w.heap.size a len) (hb : Below w.heap.size w W) : CodeOk W W.heap.size a len := by
  have h1 := code_below h hb
  exact ⟨h1.1, fun hp => by
    obtain ⟨b, off, ha, hlt, hc⟩ := h1.2 hp
    exact ⟨b, off, ha, Nat.lt_of_lt_of_le hlt hb.size, hc⟩⟩
/-- a boxed set-up and what lies behind it -/
structure KK (w W : World) (k : Nat) (o : Obj) (s : SH) (X : SX) : Prop where
  b : Below w.heap.size w W
  a : W.heap[k]? = some o
  x : RdX W s X
theorem KK.on' {w W W' : World} {k : Nat} {o : Obj} {s : SH} {X : SX} (hb : Below W.heap.size W W') (h : KK w W k o s X) : KK w W' k o s X :=
  ⟨bel_on (Nat.le_refl _) h.b hb, row_on h.a hb, h.x.on hb⟩
theorem KK.drew {w W : World} {k : Nat} {o : Obj} {s : SH} {X : SX} (h : KK w W k o s X) : KK w W.drew k o s X := h.on' ((Below.refl _ _).drew)
theorem KK.al {w W : World} {k : Nat} {o : Obj} {s : SH} {X : SX} (h : KK w W k o s X) (o' : Obj) : KK w (W.alloc o') k o s X := h.on' ((Below.refl _ _).alloc (Nat.le_refl _) _)
theorem kk_new {w W : World} {s : SH} {X : SX} (o : Obj) (hb : Below w.heap.size w W) (h : RdX W s X) : KK w (W.alloc o) W.heap.size o s X :=
  ⟨hb.alloc hb.size _, heap_new W _, h.on ((Below.refl _ _).alloc (Nat.le_refl _) _)⟩
theorem kk_conj {w W : World} {k : Nat} {t : TypeId} {x0 x1 x2 x3 x4 : Value} {s : SH} {X : SX} (h : KK w W k (.cells #[x0, x1, x2, x3, x4] t) s X) : W.cell? ⟨k, 0, none⟩ = some x0 ∧ W.cell? ⟨k, 1, none⟩ = some x1 ∧ W.cell? ⟨k, 2, none⟩ = some x2 ∧ W.cell? ⟨k, 3, none⟩ = some x3 ∧ W.cell? ⟨k, 4, none⟩ = some x4 ∧ KK w W k (.cells #[x0, x1, x2, x3, x4] t) s X := by
  have h1 := boxO_cells h.a
  exact ⟨h1.1.1, h1.1.2.1, h1.1.2.2.1, h1.1.2.2.2.1, h1.1.2.2.2.2, h⟩
theorem kk_of {w W : World} {k : Nat} {o : Obj} {s : SH} {X : SX} {P0 P1 P2 P3 P4 : Prop} (h : P0 ∧ P1 ∧ P2 ∧ P3 ∧ P4 ∧ KK w W k o s X) : KK w W k o s X := h.2.2.2.2.2

set_option maxRecDepth 100000 in
set_option maxHeartbeats 8000000 in
theorem setsIn (a0 : Option Addr) (len0 cap0 : Nat) (hb : len0 ≤ 1048576) (w0 : World) (hcode : CodeOk w0 w0.heap.size a0 len0) (hg : Hnd w0) :
    Calls Tryz.prog 3 #[.slice a0 len0 cap0] w0 fun e w' => e = .returned (.bool true) ∧ Below w0.heap.size w0 w' := by
  have HC : Hid (CodeOk w0 w0.heap.size a0 len0) := hcode
  have HG : Hid (Hnd w0) := hg
  clear hcode hg
  go_enter Tryz.func3, Tryz.ntmps3
  go_wp2_with fail
  refine (big5 a0 len0 cap0 (by omega) _).mono ?_
  rintro e wx ⟨rfl, hwx⟩
  obtain rfl : w0 = wx := hwx.symm
  rw [decide_eq_false (by omega)]
  go_wp2_with fail
  refine (drawST a0 len0 cap0 _ HC.out).mono ?_
  rintro e w1 ⟨s, X, rfl, hA, hcap, hown, hb1⟩
  obtain ⟨sq0, sn0, sc0, sq1, sn1, sc1, sq2, sn2, sc2, sq3, sn3, sc3, sq4, sn4, sc4⟩ := s
  have HA : Hid (AnyX ⟨sq0, sn0, sc0, sq1, sn1, sc1, sq2, sn2, sc2, sq3, sn3, sc3, sq4, sn4, sc4⟩ X ∧ sn0 ≤ sc0) := ⟨hA, hcap⟩
  obtain ⟨bS, hbS⟩ : ∃ k, w1.heap.size = k := ⟨_, rfl⟩
  have HK1 : Hid (KK w0 (w1.alloc (.cells #[.slice sq0 sn0 sc0, .slice sq1 sn1 sc1, .slice sq2 sn2 sc2, .slice sq3 sn3 sc3, .slice sq4 sn4 sc4] 30)) bS (.cells #[.slice sq0 sn0 sc0, .slice sq1 sn1 sc1, .slice sq2 sn2 sc2, .slice sq3 sn3 sc3, .slice sq4 sn4 sc4] 30) ⟨sq0, sn0, sc0, sq1, sn1, sc1, sq2, sn2, sc2, sq3, sn3, sc3, sq4, sn4, sc4⟩ X) := by rw [← hbS]; exact kk_new _ hb1 hown.rd
  obtain ⟨tx, b, ht⟩ := text_ex X
  have HT : Hid (TextX X tx b) := ht
  have HTS : Hid (tx.size ≤ 400000) := textX_le ht
  obtain ⟨f, hf⟩ := fault_ex X
  have HF : Hid (FaultX X f) := hf
  clear hA hcap hown hb1 ht hf
  unfold SetV
  dsimp only
  go_wp2_with fail
  refine (textI ⟨sq0, sn0, sc0, sq1, sn1, sc1, sq2, sn2, sc2, sq3, sn3, sc3, sq4, sn4, sc4⟩ X tx b HT.out _ HK1.out.x HA.out.1.sm HA.out.1.u HA.out.2 (HG.out.on HK1.out.b)).mono ?_
  rintro e w2 ⟨rfl, hb2⟩
  have HK2 : Hid (KK w0 w2 bS (.cells #[.slice sq0 sn0 sc0, .slice sq1 sn1 sc1, .slice sq2 sn2 sc2, .slice sq3 sn3 sc3, .slice sq4 sn4 sc4] 30) ⟨sq0, sn0, sc0, sq1, sn1, sc1, sq2, sn2, sc2, sq3, sn3, sc3, sq4, sn4, sc4⟩ X) := KK.on' hb2 HK1.out
  clear hb2 HK1 hbS
  go_wp2_with fail
  refine (readI tx (Nat.le_trans HTS.out (by decide)) _ (HG.out.on HK2.out.b)).mono ?_
  rintro e w3 ⟨s, okx, rfl, hR, hb3⟩
  obtain ⟨xq0, xn0, xc0, xq1, xn1, xc1, xq2, xn2, xc2, xq3, xn3, xc3, xq4, xn4, xc4⟩ := s
  obtain ⟨Y, hY, hoY⟩ := readZ_of hR
  have HY : Hid (ReadZ tx okx Y) := hY
  have HAY : Hid (AnyX ⟨xq0, xn0, xc0, xq1, xn1, xc1, xq2, xn2, xc2, xq3, xn3, xc3, xq4, xn4, xc4⟩ Y ∧ xn0 ≤ xc0) := ⟨readZ_any hY hoY.rd, own_capY hoY.o0⟩
  have HK3 : Hid (KK w0 w3 bS (.cells #[.slice sq0 sn0 sc0, .slice sq1 sn1 sc1, .slice sq2 sn2 sc2, .slice sq3 sn3 sc3, .slice sq4 sn4 sc4] 30) ⟨sq0, sn0, sc0, sq1, sn1, sc1, sq2, sn2, sc2, sq3, sn3, sc3, sq4, sn4, sc4⟩ X) := KK.on' hb3 HK2.out
  have HX3 : Hid (KK w0 (w3.alloc (.cells #[.slice xq0 xn0 xc0, .slice xq1 xn1 xc1, .slice xq2 xn2 xc2, .slice xq3 xn3 xc3, .slice xq4 xn4 xc4] 30)) w3.heap.size (.cells #[.slice xq0 xn0 xc0, .slice xq1 xn1 xc1, .slice xq2 xn2 xc2, .slice xq3 xn3 xc3, .slice xq4 xn4 xc4] 30) ⟨xq0, xn0, xc0, xq1, xn1, xc1, xq2, xn2, xc2, xq3, xn3, xc3, xq4, xn4, xc4⟩ Y) := kk_new _ HK3.out.b hoY.rd
  have HK3a : Hid (KK w0 (w3.alloc (.cells #[.slice xq0 xn0 xc0, .slice xq1 xn1 xc1, .slice xq2 xn2 xc2, .slice xq3 xn3 xc3, .slice xq4 xn4 xc4] 30)) bS (.cells #[.slice sq0 sn0 sc0, .slice sq1 sn1 sc1, .slice sq2 sn2 sc2, .slice sq3 sn3 sc3, .slice sq4 sn4 sc4] 30) ⟨sq0, sn0, sc0, sq1, sn1, sc1, sq2, sn2, sc2, sq3, sn3, sc3, sq4, sn4, sc4⟩ X) := HK3.out.al _
  obtain ⟨t2, b2, ht2⟩ := text_ex Y
  have HT2 : Hid (TextX Y t2 b2) := ht2
  clear hR hb3 hY hoY HK2 HK3 ht2
  unfold SetV
  dsimp only
  go_wp2_with fail
  refine (textI ⟨xq0, xn0, xc0, xq1, xn1, xc1, xq2, xn2, xc2, xq3, xn3, xc3, xq4, xn4, xc4⟩ Y t2 b2 HT2.out _ HX3.out.x HAY.out.1.sm HAY.out.1.u HAY.out.2 (HG.out.on HX3.out.b)).mono ?_
  rintro e w4 ⟨rfl, hb4⟩
  have HK4 : Hid (KK w0 w4 bS (.cells #[.slice sq0 sn0 sc0, .slice sq1 sn1 sc1, .slice sq2 sn2 sc2, .slice sq3 sn3 sc3, .slice sq4 sn4 sc4] 30) ⟨sq0, sn0, sc0, sq1, sn1, sc1, sq2, sn2, sc2, sq3, sn3, sc3, sq4, sn4, sc4⟩ X) := KK.on' hb4 HK3a.out
  have HKd : Hid (KK w0 w4.drew bS (.cells #[.slice sq0 sn0 sc0, .slice sq1 sn1 sc1, .slice sq2 sn2 sc2, .slice sq3 sn3 sc3, .slice sq4 sn4 sc4] 30) ⟨sq0, sn0, sc0, sq1, sn1, sc1, sq2, sn2, sc2, sq3, sn3, sc3, sq4, sn4, sc4⟩ X) := HK4.out.drew
  clear hb4 HX3 HK3a
  go_wp2_with fail
  clear HK4
  have hff : (f != f) = false := by simp
  cases b
  · have hf0 : (f == 0) = false := by
      cases h : (f == 0)
      · rfl
      · have h1 : RightX X := (fault_right HF.out).1 (by simpa using h)
        rcases HT.out with ⟨_, _, h2⟩ | ⟨h2, _, _⟩
        · cases h2
        · exact absurd h1 h2
    refine wp_region_held_drew (S := fun w' => w'.cell? ⟨bS, 0, none⟩ = some (.slice sq0 sn0 sc0) ∧ w'.cell? ⟨bS, 1, none⟩ = some (.slice sq1 sn1 sc1) ∧ w'.cell? ⟨bS, 2, none⟩ = some (.slice sq2 sn2 sc2) ∧ w'.cell? ⟨bS, 3, none⟩ = some (.slice sq3 sn3 sc3) ∧ w'.cell? ⟨bS, 4, none⟩ = some (.slice sq4 sn4 sc4) ∧ KK w0 w' bS (.cells #[.slice sq0 sn0 sc0, .slice sq1 sn1 sc1, .slice sq2 sn2 sc2, .slice sq3 sn3 sc3, .slice sq4 sn4 sc4] 30) ⟨sq0, sn0, sc0, sq1, sn1, sc1, sq2, sn2, sc2, sq3, sn3, sc3, sq4, sn4, sc4⟩ X) (by kernel_rfl) (kk_conj HKd.out) (fun hHeld => ?_)
    refine wpAnyH_take (i := 0) (v := ?_) rfl (by kernel_rfl) (by kernel_rfl) (by kernel_rfl) (fun _ _ _ h => h) (Or.inl ⟨by rfl, ?_⟩) (by assumption) ?_
    rotate_left
    · intro w_ hSw; (try dsimp only at hSw); go_simp <;> with_reducible rfl
    try simp only [Act.put, List.setIfInBounds_toArray, List.set_cons_zero, List.set_cons_succ, List.getElem_toArray, List.getElem_cons_zero, List.getElem_cons_succ]
    refine wpAnyH_take (i := 1) (v := ?_) rfl (by kernel_rfl) (by kernel_rfl) (by kernel_rfl) (fun _ _ _ h => h) (Or.inl ⟨by rfl, ?_⟩) (by assumption) ?_
    rotate_left
    · intro w_ hSw; (try dsimp only at hSw); go_simp <;> with_reducible rfl
    try simp only [Act.put, List.setIfInBounds_toArray, List.set_cons_zero, List.set_cons_succ, List.getElem_toArray, List.getElem_cons_zero, List.getElem_cons_succ]
    refine wpAnyH_ready (rs := [2]) (by kernel_rfl) (by simp) ?_
    refine AllReadyH.cons rfl (fun K hK => ?_) AllReadyH.nil
    go_simp
    go_at_call 9
    refine (faultS ⟨sq0, sn0, sc0, sq1, sn1, sc1, sq2, sn2, sc2, sq3, sn3, sc3, sq4, sn4, sc4⟩ X f HF.out _ HKd.out.x HA.out.1.sm HA.out.1.u).mono ?_
    rintro e v5 ⟨rfl, hbc⟩
    have HKe : Hid (KK w0 v5 bS (.cells #[.slice sq0 sn0 sc0, .slice sq1 sn1 sc1, .slice sq2 sn2 sc2, .slice sq3 sn3 sc3, .slice sq4 sn4 sc4] 30) ⟨sq0, sn0, sc0, sq1, sn1, sc1, sq2, sn2, sc2, sq3, sn3, sc3, sq4, sn4, sc4⟩ X) := KK.on' hbc HKd.out
    go_wp2_with fail
    refine hK.out _ _ ?_ (fun hHeld_v5 => ?_)
    · exact kk_conj HKe.out
    clear hK K hbc HKd
    try simp only [Act.put, List.setIfInBounds_toArray, List.set_cons_zero, List.set_cons_succ, List.getElem_toArray, List.getElem_cons_zero, List.getElem_cons_succ]
    refine wpAnyH_take (i := 3) (v := ?_) rfl (by kernel_rfl) (by kernel_rfl) (by kernel_rfl) (fun _ _ _ h => h) (Or.inl ⟨by rfl, ?_⟩) (by assumption) ?_
    rotate_left
    · intro w_ hSw; (try dsimp only at hSw); go_simp <;> with_reducible rfl
    try simp only [Act.put, List.setIfInBounds_toArray, List.set_cons_zero, List.set_cons_succ, List.getElem_toArray, List.getElem_cons_zero, List.getElem_cons_succ]
    refine wpAnyH_take (i := 4) (v := ?_) rfl (by kernel_rfl) (by kernel_rfl) (by kernel_rfl) (fun _ _ _ h => h) (Or.inl ⟨by rfl, ?_⟩) (by assumption) ?_
    rotate_left
    · intro w_ hSw; (try dsimp only at hSw); go_simp <;> with_reducible rfl
    try simp only [Act.put, List.setIfInBounds_toArray, List.set_cons_zero, List.set_cons_succ, List.getElem_toArray, List.getElem_cons_zero, List.getElem_cons_succ]
    refine wpAnyH_take (i := 5) (v := ?_) rfl (by kernel_rfl) (by kernel_rfl) (by kernel_rfl) (fun _ _ _ h => h) (Or.inl ⟨by rfl, ?_⟩) (by assumption) ?_
    rotate_left
    · intro w_ hSw; (try dsimp only at hSw); go_simp <;> with_reducible rfl
    try simp only [Act.put, List.setIfInBounds_toArray, List.set_cons_zero, List.set_cons_succ, List.getElem_toArray, List.getElem_cons_zero, List.getElem_cons_succ]
    refine wpAnyH_take (i := 6) (v := ?_) rfl (by kernel_rfl) (by kernel_rfl) (by kernel_rfl) (fun _ _ _ h => h) (Or.inl ⟨by rfl, ?_⟩) (by assumption) ?_
    rotate_left
    · intro w_ hSw; (try dsimp only at hSw); go_simp <;> with_reducible rfl
    try simp only [Act.put, List.setIfInBounds_toArray, List.set_cons_zero, List.set_cons_succ, List.getElem_toArray, List.getElem_cons_zero, List.getElem_cons_succ]
    refine wpAnyH_take (i := 8) (v := ?_) rfl (by kernel_rfl) (by kernel_rfl) (by kernel_rfl) (fun _ _ _ h => h) (Or.inl ⟨by rfl, ?_⟩) (by assumption) ?_
    rotate_left
    · intro w_ hSw; (try dsimp only at hSw); go_simp <;> with_reducible rfl
    try simp only [Act.put, List.setIfInBounds_toArray, List.set_cons_zero, List.set_cons_succ, List.getElem_toArray, List.getElem_cons_zero, List.getElem_cons_succ]
    refine wpAnyH_ready (rs := [7]) (by kernel_rfl) (by simp) ?_
    refine AllReadyH.cons rfl (fun K hK => ?_) AllReadyH.nil
    go_simp
    go_at_call 10
    refine (faultI ⟨sq0, sn0, sc0, sq1, sn1, sc1, sq2, sn2, sc2, sq3, sn3, sc3, sq4, sn4, sc4⟩ X f HF.out _ HKe.out.x HA.out.1.sm HA.out.1.u HA.out.2 (HG.out.on HKe.out.b)).mono ?_
    rintro e v6 ⟨rfl, hbc⟩
    have HKf : Hid (KK w0 v6 bS (.cells #[.slice sq0 sn0 sc0, .slice sq1 sn1 sc1, .slice sq2 sn2 sc2, .slice sq3 sn3 sc3, .slice sq4 sn4 sc4] 30) ⟨sq0, sn0, sc0, sq1, sn1, sc1, sq2, sn2, sc2, sq3, sn3, sc3, sq4, sn4, sc4⟩ X) := KK.on' hbc HKe.out
    go_wp2_with fail
    refine hK.out _ _ ?_ (fun hHeld_v6 => ?_)
    · exact kk_conj HKf.out
    clear hK K hbc HKe
    try simp only [Act.put, List.setIfInBounds_toArray, List.set_cons_zero, List.set_cons_succ, List.getElem_toArray, List.getElem_cons_zero, List.getElem_cons_succ]
    refine wpAnyH_ready (rs := [9]) (by kernel_rfl) (by simp) ?_
    refine AllReadyH.cons rfl (fun K hK => ?_) AllReadyH.nil
    go_simp
    go_at_call 9
    refine (faultS ⟨sq0, sn0, sc0, sq1, sn1, sc1, sq2, sn2, sc2, sq3, sn3, sc3, sq4, sn4, sc4⟩ X f HF.out _ HKf.out.x HA.out.1.sm HA.out.1.u).mono ?_
    rintro e w5 ⟨rfl, hbc⟩
    have HKg : Hid (KK w0 w5 bS (.cells #[.slice sq0 sn0 sc0, .slice sq1 sn1 sc1, .slice sq2 sn2 sc2, .slice sq3 sn3 sc3, .slice sq4 sn4 sc4] 30) ⟨sq0, sn0, sc0, sq1, sn1, sc1, sq2, sn2, sc2, sq3, sn3, sc3, sq4, sn4, sc4⟩ X) := KK.on' hbc HKf.out
    go_wp2_with fail
    refine hK.out _ _ ?_ (fun hHeld_w5 => ?_)
    · exact kk_conj HKg.out
    clear hK K hbc HKf
    try simp only [Act.put, List.setIfInBounds_toArray, List.set_cons_zero, List.set_cons_succ, List.getElem_toArray, List.getElem_cons_zero, List.getElem_cons_succ]
    refine wpAnyH_take (i := 10) (v := ?_) rfl (by kernel_rfl) (by kernel_rfl) (by kernel_rfl) (fun _ _ _ h => h) (Or.inl ⟨by rfl, ?_⟩) (by assumption) ?_
    rotate_left
    · intro w_ hSw; (try dsimp only at hSw); go_simp <;> with_reducible rfl
    try simp only [Act.put, List.setIfInBounds_toArray, List.set_cons_zero, List.set_cons_succ, List.getElem_toArray, List.getElem_cons_zero, List.getElem_cons_succ]
    refine wpAnyH_take (i := 11) (v := ?_) rfl (by kernel_rfl) (by kernel_rfl) (by kernel_rfl) (fun _ _ _ h => h) (Or.inl ⟨by rfl, ?_⟩) (by assumption) ?_
    rotate_left
    · intro w_ hSw; (try dsimp only at hSw); go_simp <;> with_reducible rfl
    try simp only [Act.put, List.setIfInBounds_toArray, List.set_cons_zero, List.set_cons_succ, List.getElem_toArray, List.getElem_cons_zero, List.getElem_cons_succ]
    refine wpAnyH_take (i := 12) (v := ?_) rfl (by kernel_rfl) (by kernel_rfl) (by kernel_rfl) (fun _ _ _ h => h) (Or.inl ⟨by rfl, ?_⟩) (by assumption) ?_
    rotate_left
    · intro w_ hSw; (try dsimp only at hSw); go_simp <;> with_reducible rfl
    try simp only [Act.put, List.setIfInBounds_toArray, List.set_cons_zero, List.set_cons_succ, List.getElem_toArray, List.getElem_cons_zero, List.getElem_cons_succ]
    refine wpAnyH_take (i := 13) (v := ?_) rfl (by kernel_rfl) (by kernel_rfl) (by kernel_rfl) (fun _ _ _ h => h) (Or.inl ⟨by rfl, ?_⟩) (by assumption) ?_
    rotate_left
    · intro w_ hSw; (try dsimp only at hSw); go_simp <;> with_reducible rfl
    try simp only [Act.put, List.setIfInBounds_toArray, List.set_cons_zero, List.set_cons_succ, List.getElem_toArray, List.getElem_cons_zero, List.getElem_cons_succ]
    refine wpAnyH_take (i := 14) (v := ?_) rfl (by kernel_rfl) (by kernel_rfl) (by kernel_rfl) (fun _ _ _ h => h) (Or.inl ⟨by rfl, ?_⟩) (by assumption) ?_
    rotate_left
    · intro w_ hSw; (try dsimp only at hSw); go_simp <;> with_reducible rfl
    try simp only [Act.put, List.setIfInBounds_toArray, List.set_cons_zero, List.set_cons_succ, List.getElem_toArray, List.getElem_cons_zero, List.getElem_cons_succ]
    refine wpAnyH_take (i := 15) (v := undef) rfl (by kernel_rfl) (by kernel_rfl) (by kernel_rfl) (fun _ _ _ h => h) (Or.inr ⟨by rfl, rfl⟩) (by assumption) ?_
    try simp only [Act.put, List.setIfInBounds_toArray, List.set_cons_zero, List.set_cons_succ, List.getElem_toArray, List.getElem_cons_zero, List.getElem_cons_succ]
    refine wpAnyH_take (i := 16) (v := undef) rfl (by kernel_rfl) (by kernel_rfl) (by kernel_rfl) (fun _ _ _ h => h) (Or.inr ⟨by rfl, rfl⟩) (by assumption) ?_
    try simp only [Act.put, List.setIfInBounds_toArray, List.set_cons_zero, List.set_cons_succ, List.getElem_toArray, List.getElem_cons_zero, List.getElem_cons_succ]
    refine wpAnyH_take (i := 17) (v := undef) rfl (by kernel_rfl) (by kernel_rfl) (by kernel_rfl) (fun _ _ _ h => h) (Or.inr ⟨by rfl, rfl⟩) (by assumption) ?_
    try simp only [Act.put, List.setIfInBounds_toArray, List.set_cons_zero, List.set_cons_succ, List.getElem_toArray, List.getElem_cons_zero, List.getElem_cons_succ]
    refine wpAnyH_take (i := 18) (v := undef) rfl (by kernel_rfl) (by kernel_rfl) (by kernel_rfl) (fun _ _ _ h => h) (Or.inr ⟨by rfl, rfl⟩) (by assumption) ?_
    try simp only [Act.put, List.setIfInBounds_toArray, List.set_cons_zero, List.set_cons_succ, List.getElem_toArray, List.getElem_cons_zero, List.getElem_cons_succ]
    refine wpAnyH_take (i := 19) (v := undef) rfl (by kernel_rfl) (by kernel_rfl) (by kernel_rfl) (fun _ _ _ h => h) (Or.inr ⟨by rfl, rfl⟩) (by assumption) ?_
    try simp only [Act.put, List.setIfInBounds_toArray, List.set_cons_zero, List.set_cons_succ, List.getElem_toArray, List.getElem_cons_zero, List.getElem_cons_succ]
    refine wpAnyH_take (i := 20) (v := undef) rfl (by kernel_rfl) (by kernel_rfl) (by kernel_rfl) (fun _ _ _ h => h) (Or.inr ⟨by rfl, rfl⟩) (by assumption) ?_
    try simp only [Act.put, List.setIfInBounds_toArray, List.set_cons_zero, List.set_cons_succ, List.getElem_toArray, List.getElem_cons_zero, List.getElem_cons_succ]
    refine wpAnyH_take (i := 21) (v := undef) rfl (by kernel_rfl) (by kernel_rfl) (by kernel_rfl) (fun _ _ _ h => h) (Or.inr ⟨by rfl, rfl⟩) (by assumption) ?_
    try simp only [Act.put, List.setIfInBounds_toArray, List.set_cons_zero, List.set_cons_succ, List.getElem_toArray, List.getElem_cons_zero, List.getElem_cons_succ]
    refine wpAnyH_take (i := 22) (v := ?_) rfl (by kernel_rfl) (by kernel_rfl) (by kernel_rfl) (fun _ _ _ h => h) (Or.inl ⟨by rfl, ?_⟩) (by assumption) ?_
    rotate_left
    · intro w_ hSw; (try dsimp only at hSw); go_simp <;> with_reducible rfl
    try simp only [Act.put, List.setIfInBounds_toArray, List.set_cons_zero, List.set_cons_succ, List.getElem_toArray, List.getElem_cons_zero, List.getElem_cons_succ]
    refine wpAnyH_take (i := 23) (v := ?_) rfl (by kernel_rfl) (by kernel_rfl) (by kernel_rfl) (fun _ _ _ h => h) (Or.inl ⟨by rfl, ?_⟩) (by assumption) ?_
    rotate_left
    · intro w_ hSw; (try dsimp only at hSw); go_simp <;> with_reducible rfl
    try simp only [Act.put, List.setIfInBounds_toArray, List.set_cons_zero, List.set_cons_succ, List.getElem_toArray, List.getElem_cons_zero, List.getElem_cons_succ]
    refine wpAnyH_done (by kernel_rfl) ?_ _
    have HB5 : Hid (Below w0.heap.size w0 w5) := HKg.out.b
    clear HKg hHeld hHeld_v5 hHeld_v6 hHeld_w5
    have HC5 : Hid (CodeOk w5 w5.heap.size a0 len0) := (code_here HC.out HB5.out)
    go_wp2_with fail
    refine (drawRS a0 len0 cap0 _ HC5.out).mono ?_
    rintro e w7 ⟨u, rfl, hu, hb7⟩
    have HU : Hid (u.size ≤ 400001) := hu
    have HB7 : Hid (Below w0.heap.size w0 w7) := bel_on (Nat.le_refl _) HB5.out hb7
    clear hu hb7 HC5 HB5
    go_wp2_with fail
    refine (readI u (Nat.le_trans HU.out (by decide)) _ (HG.out.on HB7.out)).mono ?_
    rintro e w8 ⟨s, oky, rfl, hR, hb8⟩
    obtain ⟨yq0, yn0, yc0, yq1, yn1, yc1, yq2, yn2, yc2, yq3, yn3, yc3, yq4, yn4, yc4⟩ := s
    obtain ⟨Z, hZ, hoZ⟩ := readZ_of hR
    have HZ : Hid (ReadZ u oky Z) := hZ
    have HAZ : Hid (AnyX ⟨yq0, yn0, yc0, yq1, yn1, yc1, yq2, yn2, yc2, yq3, yn3, yc3, yq4, yn4, yc4⟩ Z ∧ yn0 ≤ yc0) := ⟨readZ_any hZ hoZ.rd, own_capY hoZ.o0⟩
    have HB8 : Hid (Below w0.heap.size w0 w8) := bel_on (Nat.le_refl _) HB7.out hb8
    obtain ⟨bY, hbY⟩ : ∃ k, w8.heap.size = k := ⟨_, rfl⟩
    have HZ8 : Hid (KK w0 (w8.alloc (.cells #[.slice yq0 yn0 yc0, .slice yq1 yn1 yc1, .slice yq2 yn2 yc2, .slice yq3 yn3 yc3, .slice yq4 yn4 yc4] 30)) bY (.cells #[.slice yq0 yn0 yc0, .slice yq1 yn1 yc1, .slice yq2 yn2 yc2, .slice yq3 yn3 yc3, .slice yq4 yn4 yc4] 30) ⟨yq0, yn0, yc0, yq1, yn1, yc1, yq2, yn2, yc2, yq3, yn3, yc3, yq4, yn4, yc4⟩ Z) := by rw [← hbY]; exact kk_new _ HB8.out hoZ.rd
    clear hR hb8 hZ hoZ HB7 HB8
    unfold SetV
    dsimp only
    go_wp2_with fail
    refine (readS u (Nat.le_trans HU.out (by decide)) _).mono ?_
    rintro e w9 ⟨s, okz, rfl, hR, hb9⟩
    obtain ⟨zq0, zn0, zc0, zq1, zn1, zc1, zq2, zn2, zc2, zq3, zn3, zc3, zq4, zn4, zc4⟩ := s
    have hok : okz = oky := readZ_with HZ.out hR
    subst hok
    have HZ9 : Hid (KK w0 (w9.alloc (.cells #[.slice zq0 zn0 zc0, .slice zq1 zn1 zc1, .slice zq2 zn2 zc2, .slice zq3 zn3 zc3, .slice zq4 zn4 zc4] 30)) bY (.cells #[.slice yq0 yn0 yc0, .slice yq1 yn1 yc1, .slice yq2 yn2 yc2, .slice yq3 yn3 yc3, .slice yq4 yn4 yc4] 30) ⟨yq0, yn0, yc0, yq1, yn1, yc1, yq2, yn2, yc2, yq3, yn3, yc3, yq4, yn4, yc4⟩ Z) := (KK.on' hb9 HZ8.out).al _
    obtain ⟨t3, b3, ht3⟩ := text_ex Z
    have HT3 : Hid (TextX Z t3 b3) := ht3
    clear hR hb9 ht3 HZ8 hbY
    have kY := boxO_cells HZ9.out.a
    unfold SetV
    dsimp only
    go_wp2_with fail
    refine (textI ⟨yq0, yn0, yc0, yq1, yn1, yc1, yq2, yn2, yc2, yq3, yn3, yc3, yq4, yn4, yc4⟩ Z t3 b3 HT3.out _ HZ9.out.x HAZ.out.1.sm HAZ.out.1.u HAZ.out.2 (HG.out.on HZ9.out.b)).mono ?_
    rintro e wA ⟨rfl, hbA⟩
    have HE : Hid (Below w0.heap.size w0 wA) := bel_on (Nat.le_refl _) HZ9.out.b hbA
    clear hbA HZ9 kY
    cases okz
    · go_wp2
      go_ret
      exact ⟨rfl, HE.out⟩
    · have ht3 : t3 = u := readZ_text HZ.out HT3.out rfl
      subst ht3
      go_wp2
      go_ret
      exact ⟨rfl, HE.out⟩
  · have hf0 : f = 0 := (fault_right HF.out).2 (by
      rcases HT.out with ⟨h1, _, _⟩ | ⟨_, _, h2⟩
      · exact h1
      · cases h2)
    subst hf0
    have hox : okx = true := readZ_back HT.out HY.out
    subst hox
    have ht2 : t2 = tx := readZ_text HY.out HT2.out rfl
    subst ht2
    go_region_held3 (fun w' => w'.cell? ⟨bS, 0, none⟩ = some (.slice sq0 sn0 sc0) ∧ w'.cell? ⟨bS, 1, none⟩ = some (.slice sq1 sn1 sc1) ∧ w'.cell? ⟨bS, 2, none⟩ = some (.slice sq2 sn2 sc2) ∧ w'.cell? ⟨bS, 3, none⟩ = some (.slice sq3 sn3 sc3) ∧ w'.cell? ⟨bS, 4, none⟩ = some (.slice sq4 sn4 sc4) ∧ KK w0 w' bS (.cells #[.slice sq0 sn0 sc0, .slice sq1 sn1 sc1, .slice sq2 sn2 sc2, .slice sq3 sn3 sc3, .slice sq4 sn4 sc4] 30) ⟨sq0, sn0, sc0, sq1, sn1, sc1, sq2, sn2, sc2, sq3, sn3, sc3, sq4, sn4, sc4⟩ X)
      (first | (with_reducible exact kk_conj HKd.out) | (refine kk_conj (KK.on' (by assumption) (kk_of (by assumption)))))
      (first | (go_at_call 9; refine (faultS ⟨sq0, sn0, sc0, sq1, sn1, sc1, sq2, sn2, sc2, sq3, sn3, sc3, sq4, sn4, sc4⟩ X 0 HF.out _ (kk_of (by assumption)).x HA.out.1.sm HA.out.1.u).mono ?_; rintro e w5 ⟨rfl, hb5⟩) | (go_at_call 10; refine (faultI ⟨sq0, sn0, sc0, sq1, sn1, sc1, sq2, sn2, sc2, sq3, sn3, sc3, sq4, sn4, sc4⟩ X 0 HF.out _ (kk_of (by assumption)).x HA.out.1.sm HA.out.1.u HA.out.2 (HG.out.on (kk_of (by assumption)).b)).mono ?_; rintro e w6 ⟨rfl, hb6⟩))
    rename_i HH
    have HB5 : Hid (Below w0.heap.size w0 w5) := (kk_of HH).b
    clear HH HKd
    have HC5 : Hid (CodeOk w5 w5.heap.size a0 len0) := (code_here HC.out HB5.out)
    go_wp2_with fail
    refine (drawRS a0 len0 cap0 _ HC5.out).mono ?_
    rintro e w7 ⟨u, rfl, hu, hb7⟩
    have HU : Hid (u.size ≤ 400001) := hu
    have HB7 : Hid (Below w0.heap.size w0 w7) := bel_on (Nat.le_refl _) HB5.out hb7
    clear hu hb7 HC5 HB5
    go_wp2_with fail
    refine (readI u (Nat.le_trans HU.out (by decide)) _ (HG.out.on HB7.out)).mono ?_
    rintro e w8 ⟨s, oky, rfl, hR, hb8⟩
    obtain ⟨yq0, yn0, yc0, yq1, yn1, yc1, yq2, yn2, yc2, yq3, yn3, yc3, yq4, yn4, yc4⟩ := s
    obtain ⟨Z, hZ, hoZ⟩ := readZ_of hR
    have HZ : Hid (ReadZ u oky Z) := hZ
    have HAZ : Hid (AnyX ⟨yq0, yn0, yc0, yq1, yn1, yc1, yq2, yn2, yc2, yq3, yn3, yc3, yq4, yn4, yc4⟩ Z ∧ yn0 ≤ yc0) := ⟨readZ_any hZ hoZ.rd, own_capY hoZ.o0⟩
    have HB8 : Hid (Below w0.heap.size w0 w8) := bel_on (Nat.le_refl _) HB7.out hb8
    obtain ⟨bY, hbY⟩ : ∃ k, w8.heap.size = k := ⟨_, rfl⟩
    have HZ8 : Hid (KK w0 (w8.alloc (.cells #[.slice yq0 yn0 yc0, .slice yq1 yn1 yc1, .slice yq2 yn2 yc2, .slice yq3 yn3 yc3, .slice yq4 yn4 yc4] 30)) bY (.cells #[.slice yq0 yn0 yc0, .slice yq1 yn1 yc1, .slice yq2 yn2 yc2, .slice yq3 yn3 yc3, .slice yq4 yn4 yc4] 30) ⟨yq0, yn0, yc0, yq1, yn1, yc1, yq2, yn2, yc2, yq3, yn3, yc3, yq4, yn4, yc4⟩ Z) := by rw [← hbY]; exact kk_new _ HB8.out hoZ.rd
    clear hR hb8 hZ hoZ HB7 HB8
    unfold SetV
    dsimp only
    go_wp2_with fail
    refine (readS u (Nat.le_trans HU.out (by decide)) _).mono ?_
    rintro e w9 ⟨s, okz, rfl, hR, hb9⟩
    obtain ⟨zq0, zn0, zc0, zq1, zn1, zc1, zq2, zn2, zc2, zq3, zn3, zc3, zq4, zn4, zc4⟩ := s
    have hok : okz = oky := readZ_with HZ.out hR
    subst hok
    have HZ9 : Hid (KK w0 (w9.alloc (.cells #[.slice zq0 zn0 zc0, .slice zq1 zn1 zc1, .slice zq2 zn2 zc2, .slice zq3 zn3 zc3, .slice zq4 zn4 zc4] 30)) bY (.cells #[.slice yq0 yn0 yc0, .slice yq1 yn1 yc1, .slice yq2 yn2 yc2, .slice yq3 yn3 yc3, .slice yq4 yn4 yc4] 30) ⟨yq0, yn0, yc0, yq1, yn1, yc1, yq2, yn2, yc2, yq3, yn3, yc3, yq4, yn4, yc4⟩ Z) := (KK.on' hb9 HZ8.out).al _
    obtain ⟨t3, b3, ht3⟩ := text_ex Z
    have HT3 : Hid (TextX Z t3 b3) := ht3
    clear hR hb9 ht3 HZ8 hbY
    have kY := boxO_cells HZ9.out.a
    unfold SetV
    dsimp only
    go_wp2_with fail
    refine (textI ⟨yq0, yn0, yc0, yq1, yn1, yc1, yq2, yn2, yc2, yq3, yn3, yc3, yq4, yn4, yc4⟩ Z t3 b3 HT3.out _ HZ9.out.x HAZ.out.1.sm HAZ.out.1.u HAZ.out.2 (HG.out.on HZ9.out.b)).mono ?_
    rintro e wA ⟨rfl, hbA⟩
    have HE : Hid (Below w0.heap.size w0 wA) := bel_on (Nat.le_refl _) HZ9.out.b hbA
    clear hbA HZ9 kY
    cases okz
    · go_wp2
      go_ret
      exact ⟨rfl, HE.out⟩
    · have ht3 : t3 = u := readZ_text HZ.out HT3.out rfl
      subst ht3
      go_wp2
      go_ret
      exact ⟨rfl, HE.out⟩
end Go.Proofs.YtadbekhekggpkaaGreatDoor

namespace Go.Proofs.YtadbekhekggpkaaGreatDoor
open Go.ChangeShapes Go.WideShapes Go.ChangeAt Go.RowKit Go.PlainAid
set_option linter.unusedVariables false

/-- what the walk is told of a list of bytes that came in -/
def IsRow (k : IntKind) (w : World) (a : Option Addr) (len cap : Nat) (zs : List Int) : Prop :=
  (a = none ∧ len = 0 ∧ cap = 0 ∧ zs = []) ∨
  ∃ x, a = some x ∧ len ≤ cap ∧ cap ≤ maxLen ∧ zs.length = cap ∧ (∀ i, i < zs.length → w.cell? (x.add i) = some (.int k (zs.getD i 0))) ∧ ∀ n ∈ zs, (Lit.int k n).wf = true

theorem byte_wf {n : Int} (h : (Lit.int .u8 n).wf = true) : 0 ≤ n ∧ n ≤ 255 := by
  simpa [Lit.wf, IntKind.min, IntKind.max, IntKind.signed, IntKind.bits] using h

theorem code_of_row {w : World} {a : Option Addr} {len cap : Nat} {zs : List Int} (h : IsRow .u8 w a len cap zs) (hl : len ≤ 1048576) : CodeOk w w.heap.size a len := by
  refine ⟨hl, fun hp => ?_⟩
  rcases h with ⟨rfl, rfl, rfl, rfl⟩ | ⟨x, rfl, h1, h2, h3, h4, h5⟩
  · omega
  · obtain ⟨b, off, rfl, hc⟩ := ints_at h4 (by omega)
    refine ⟨b, off, rfl, ?_, fun j hj => ?_⟩
    · have := hc 0 (by omega)
      exact World.block_lt_of_cell? w _ this
    · have hj' : j < zs.length := by omega
      have hm : zs.getD j 0 ∈ zs := by simp [List.getD_eq_getElem?_getD, List.getElem?_eq_getElem hj']
      have hw := byte_wf (h5 _ hm)
      exact ⟨zs.getD j 0, hw.1, hw.2, hc j hj'⟩

set_option maxRecDepth 100000 in
theorem open_code {H : Type} {enc : TypeId × Value → H} {W : World} {base : Nat} {held : Bool} {v : Value} {d : DataW H} {ps : List MemPlace} {bs : Nat}
    (hv : Value.okWide Tryz.prog W .any base 22 v) (h : DataW.Trod enc Tryz.prog W bs (fun _ => true) held 22 v d ps) :
    ∃ a len cap zs, v = .slice a len cap ∧ IsRow .u8 W a len cap zs := by
  obtain ⟨a, len, cap, rfl⟩ := okWide_slice Tryz.underlying22 hv
  obtain ⟨fuel, hf⟩ := h
  rcases open_ints Tryz.underlying22 Tryz.underlying5 (by kernel_rfl) hf with ⟨hcs, _⟩ | ⟨x, l, c, zs, hcs, _, hl, hm, hz, _, hcell, hwz⟩
  · simp [Value.cells] at hcs
    obtain ⟨rfl, rfl, rfl⟩ := hcs
    exact ⟨none, 0, 0, [], rfl, .inl ⟨rfl, rfl, rfl, rfl⟩⟩
  · simp [Value.cells] at hcs
    obtain ⟨rfl, rfl, rfl⟩ := hcs
    exact ⟨_, _, _, zs, rfl, .inr ⟨_, rfl, hl, hm, by simpa using hz, hcell, hwz⟩⟩
end Go.Proofs.YtadbekhekggpkaaGreatDoor

namespace Go.Proofs.YtadbekhekggpkaaGreatDoor.fnSetups
open Go.ChangeShapes Go.WideShapes Go.ChangeAt Go.RowKit Go.PlainAid
open Go.ChangeMaps (open_string shut_string)
set_option linter.unusedVariables false

theorem own : ownKnob Tryz.prog.godebug = none := by kernel_rfl
theorem laidOut : laidOutB Tryz.prog = true := by kernel_rfl

theorem walk (a0 : Option Addr) (len0 cap0 : Nat) (z0 : List Int) (w : World) (w0 : IsRow .u8 w a0 len0 cap0 z0) (hg : Hnd w) :
    Calls Tryz.prog 3 #[.slice a0 len0 cap0] w fun e w' => e = .returned (.bool true) ∧ Below w.heap.size w w' := by
  have hlen : len0 ≤ 9223372036854775807 := by
    rcases w0 with ⟨_, h, _⟩ | ⟨x, _, h1, h2, _⟩
    · omega
    · unfold maxLen at h2; omega
  by_cases hb : len0 ≤ 1048576
  · exact setsIn a0 len0 cap0 hb w (code_of_row w0 hb) hg
  · have hb' : 1048576 < len0 := by omega
    clear hg
    go_enter Tryz.func3, Tryz.ntmps3
    go_wp2_with fail
    refine (big5 a0 len0 cap0 hlen _).mono ?_
    rintro e w1 ⟨rfl, rfl⟩
    rw [decide_eq_true (by omega)]
    go_wp2
    go_ret
    exact ⟨rfl, Below.refl _ _⟩

set_option maxRecDepth 100000 in
theorem contract (H : Type) (enc : TypeId × Value → H) (W : World) (base : Nat) (args : Array Value) (ds gs : List (DataW H)) (before : List MemPlace)
    (hval : ∀ (j : Nat) t v, Tryz.f3.params[j]? = some t → args[j]? = some v → Value.okWide Tryz.prog W .any base t v)
    (hW : DataW.Whole enc Tryz.prog Tryz.f3.params.toList Rows.fnSetupsSpec.vars false W args.toList ds gs before) (hL : laidMetH Tryz.prog Rows.fnSetupsRow.laid W) :
    Calls Tryz.prog 3 args W fun e W' => ∃ v, e = .returned v ∧ Rows.fnSetupsSpec.post enc Tryz.prog Tryz.f3 false true false false W args v W' := by
  have hW' := hW
  obtain ⟨p, q, hA0, hV, rfl, hfz, hnd⟩ := hW
  have hA : DataW.TrodAll enc Tryz.prog W 0 (fun _ => true) true Tryz.f3.params.toList args.toList ds p := hA0
  rw [Tryz.params3] at hA hval
  obtain ⟨v0, vs0, d0, ds0, p0, q0, hargs, rfl, rfl, h0, r0⟩ := trodAll_cons hA
  obtain ⟨rfl, rfl, rfl⟩ := trodAll_nil r0
  obtain rfl : args = #[v0] := by cases args; simp_all
  obtain ⟨rfl, rfl⟩ := trodVars_none hV
  have k0 := h0
  have lt0 : ∀ x ∈ p0, x.block < W.heap.size := by obtain ⟨m, hm⟩ := k0; exact DataW.trod_lt m _ _ _ hm
  obtain ⟨a0, len0, cap0, z0, rfl, w0⟩ := open_code (hval 0 22 v0 rfl rfl) h0
  clear hA0
  refine (walk a0 len0 cap0 z0 W w0 (handle_of hL)).mono fun e W' ⟨he, bel⟩ => ?_
  subst he
  exact ⟨_, rfl, _, _, _, [], _, [], hW', trodAll_mk1 (shut_bool Tryz.underlying4 _), (trodAll_cons_mk (Below.trod laidOut (by kernel_rfl) (of_decide_eq_true (by kernel_rfl)) k0 bel lt0) trodAll_mk0), rfl, bel.frame _, fun h => by cases h⟩

set_option maxRecDepth 100000 in
theorem laid_met (os : Os) : laidMetH Tryz.prog Rows.fnSetupsRow.laid ((layH (World.holding Tryz.prog os ⟨#[], #[], []⟩)).forCall (fun _ _ => 0) ⟨#[], #[.slice none 0 0], []⟩).memory :=
  laidMetH_of_parts (laidMet_nil _ _) (by kernel_rfl)
set_option maxRecDepth 100000 in
theorem reads (os : Os) {H : Type} (enc : TypeId × Value → H) : ∃ places, DataW.whole enc Tryz.prog ((layH (World.holding Tryz.prog os ⟨#[], #[], []⟩)).forCall (fun _ _ => 0) ⟨#[], #[.slice none 0 0], []⟩).memory Tryz.f3.params.toList Rows.fnSetupsSpec.vars false #[Value.slice none 0 0].toList 8 = some ([.nil], [], places) :=
  ⟨[], by kernel_rfl⟩

set_option maxRecDepth 100000 in
theorem lifted (os : Os) (started : os.Started) (H : Type) (enc : TypeId × Value → H) (F : Stop.Interp) :
    ReturnsInHanded {} Tryz.checked os 3 .any ((OpenSpec.ofChange Rows.fnSetupsSpec).preRow enc Tryz.prog Tryz.f3 Rows.fnSetupsRow.domain false Rows.fnSetupsRow.laid) (((OpenSpec.ofChange Rows.fnSetupsSpec).at F).post enc Tryz.prog Tryz.f3 false true false false) := by
  obtain ⟨places, hx⟩ := reads os enc
  refine returnsInHanded_of_row (C := Tryz.checked) (s := OpenSpec.ofChange Rows.fnSetupsSpec) own started (by kernel_rfl) Tryz.func3
    (witness_row_at (enc := enc) (C := Tryz.checked) false (layH (World.holding Tryz.prog os ⟨#[], #[], []⟩)) #[.slice none 0 0] rfl (by kernel_rfl) (by kernel_rfl) (by kernel_rfl)
      (OpenSpec.preRow_of_cond 8 hx (by kernel_rfl) (fun k hk => by cases hk) (by kernel_rfl) (laid_met os))) ?_
  intro W base args ds gs before hval hW _ _ _ hL _ _
  exact contract H enc W base args ds gs before hval hW hL

theorem said : Rows.FnSetupsSaid :=
  OpenClaim.holds_of_cond 3 Tryz.f3 rfl rfl rfl rfl rfl rfl rfl ⟨rfl, rfl, rfl, rfl, rfl⟩ rfl rfl rfl rfl rfl (by kernel_rfl) Tryz.func3 (by kernel_rfl)
    (of_decide_eq_true (by kernel_rfl)) (by unfold Func.isWrapper; first | (rw [if_pos (by decide +kernel)]; kernel_rfl) | (rw [if_neg (by decide +kernel)]; exact ⟨rfl, rfl⟩))
    (fun os started H enc _ F => by rw [OpenClaim.pre_eq_preRow]; exact lifted os started H enc F)

theorem plain (f : FuncId) (fn : Func) (hf : Tryz.pinned.checked.prog.funcNamed Rows.fnSetupsRow.func = some f) (hfn : Tryz.pinned.checked.prog.funcs[f]? = some fn) :
    true = Tryz.pinned.checked.prog.looks [] ∧ ∀ (j : Nat) t, fn.params[j]? = some t → Tryz.pinned.checked.prog.wantsStandIn t = false := by
  obtain rfl : f = 3 := Option.some.inj ((show Tryz.prog.funcNamed Rows.fnSetupsRow.func = some 3 by kernel_rfl).symm.trans hf) |>.symm
  obtain rfl : fn = Tryz.f3 := (Option.some.inj (Tryz.func3.symm.trans hfn)).symm
  refine ⟨by kernel_rfl, fun j t ht => ?_⟩
  rw [Tryz.params3] at ht
  obtain rfl : t = 22 := by simpa using Array.mem_of_getElem? ht
  exact (show Tryz.prog.wantsStandIn 22 = false by kernel_rfl)

theorem card : Rows.FnSetupsCardSaid :=
  Claim7.holds_tied_plain_at .later [] _ _ _ _ said (fun _ h => by cases h) (by kernel_rfl) (fun _ h => by cases h) fnSetups_row_tie rfl ⟨rfl, rfl⟩ (by kernel_rfl) rfl plain (by kernel_rfl)

end Go.Proofs.YtadbekhekggpkaaGreatDoor.fnSetups
namespace Go.Proofs.YtadbekhekggpkaaGreatDoor
theorem fnSetups_card : Rows.FnSetupsCardSaid :=
  fnSetups.card
#print axioms fnSetups_card
end Go.Proofs.YtadbekhekggpkaaGreatDoor
