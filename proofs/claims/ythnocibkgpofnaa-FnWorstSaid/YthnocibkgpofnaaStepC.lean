/-
  The instruction at Pc; the boxes of a step.
-/
import Derived.Test.YthnocibkgpofnaaRunI
namespace Go.Proofs.Ythnocibkgpofnaa
open Go.RowKit Go.PlainAid
set_option linter.unusedVariables false

theorem box4 (w : World) (x y : Value) (t r : TypeId) (u v : Value) :
    ((w.alloc (.cells #[x, y] t)).alloc (.cells #[u, v] r)).heap[w.heap.size]? = some (.cells #[x, y] t) ∧ ((w.alloc (.cells #[x, y] t)).alloc (.cells #[u, v] r)).heap[w.heap.size + 1]? = some (.cells #[u, v] r) ∧ Below w.heap.size w ((w.alloc (.cells #[x, y] t)).alloc (.cells #[u, v] r)) ∧ ((w.alloc (.cells #[x, y] t)).alloc (.cells #[u, v] r)).heap.size = w.heap.size + 2 := box2b w x y u v t r

set_option maxRecDepth 100000 in
set_option maxHeartbeats 2000000 in
theorem instrAtY (qs : Option Addr) (pc : Int) (st : List Int) (n cp : Nat) (qc : Option Addr) (rl : List (Int × Int)) (nc cc j : Nat) (op arg : Int) (hl : st.length = n) (hn : n ≤ 9223372036854775807) (hlc : rl.length = nc) (hnc : nc ≤ 9223372036854775807) (hc : CpuR pc st) (hk : I.CodeR rl) (hj : pc = j) (hjl : j < nc) (hx : rl[j]? = some (op, arg)) (w : World) (hr : Rd w qs st) (hrc : I.RdR w qc rl) :
    Calls Try.prog 69 #[.agg #[.int .i64 pc, .slice qs n cp], .slice qc nc cc] w fun e w' => e = .returned (.tuple #[.agg #[.int .i64 op, .int .i64 arg], .bool true]) ∧ Below w.heap.size w w' := by
  subst hj
  obtain ⟨hA, hZ, hW, hS⟩ := box4 w (.int .i64 j) (.slice qs n cp) 55 51 (.int .i64 0) (.int .i64 0)
  have HA : Hid (_ = _) := hA
  have HZ : Hid (_ = _) := hZ
  have HW : Hid (Below _ _ _) := hW
  have HR : Hid (Rd w qs st) := hr
  have HRC : Hid (I.RdR w qc rl) := hrc
  have HL : Hid (st.length = n) := hl
  have HLC : Hid (rl.length = nc) := hlc
  have HC : Hid (CpuR j st) := hc
  have HK : Hid (I.CodeR rl) := hk
  have HX : Hid (rl[j]? = some (op, arg)) := hx
  clear hA hZ hW hS hr hrc hl hlc hc hk hx
  go_enter Try.func69, Try.ntmps69
  go_wp2_with fail
  refine (cpuokI qs j st n cp true HL.out hn ⟨fun _ => HC.out, fun _ => rfl⟩ _ (HR.out.keep HW.out (Nat.le_refl _))).mono ?_
  rintro e w1 ⟨rfl, hb1⟩
  have HA1 : Hid (_ = _) := row_on HA.out hb1
  have HZ1 : Hid (_ = _) := row_on HZ.out hb1
  have HW1 : Hid (Below w.heap.size w w1) := HW.out.trans (hb1.mono HW.out.size)
  clear hb1 HA HZ HW
  go_wp2_with fail
  refine (I.codeokI qc rl nc cc true HLC.out hnc ⟨fun _ => HK.out, fun _ => rfl⟩ _ (HRC.out.keep HW1.out (Nat.le_refl _))).mono ?_
  rintro e w2 ⟨rfl, hb2⟩
  have HA2 : Hid (_ = _) := row_on HA1.out hb2
  have HZ2 : Hid (_ = _) := row_on HZ1.out hb2
  have HW2 : Hid (Below w.heap.size w w2) := HW1.out.trans (hb2.mono HW1.out.size)
  clear hb2 HA1 HZ1 HW1
  have hjr : j < rl.length := by have := HLC.out; omega
  obtain ⟨g, off, ha, hcc⟩ := (HRC.out.keep HW2.out (Nat.le_refl _)) (by omega)
  subst ha
  have hcj := hcc j hjr
  have hxx : rl[j] = (op, arg) := by have := HX.out; rw [List.getElem?_eq_getElem hjr] at this; exact Option.some.inj this
  rw [hxx] at hcj
  have ka := row2_cells HA2.out
  have kz := row2_cells HZ2.out
  clear hcc hxx hjr
  go_wp2
  refine bodyPost_ret (v := .tuple #[.agg #[.int .i64 op, .int .i64 arg], .bool true]) (by simp [results, Try.results69, go_sem, kz]) rfl ⟨rfl, ?_⟩
  exact (HW2.out.setCell (by simp) _).setCell (by simp) _

set_option maxRecDepth 100000 in
set_option maxHeartbeats 2000000 in
theorem instrAtN (qs : Option Addr) (pc : Int) (st : List Int) (n cp : Nat) (qc : Option Addr) (rl : List (Int × Int)) (nc cc : Nat) (hl : st.length = n) (hn : n ≤ 9223372036854775807) (hlc : rl.length = nc) (hnc : nc ≤ 9223372036854775807) (hno : ¬ (CpuR pc st ∧ I.CodeR rl ∧ pc < (nc : Int))) (w : World) (hr : Rd w qs st) (hrc : I.RdR w qc rl) :
    Calls Try.prog 69 #[.agg #[.int .i64 pc, .slice qs n cp], .slice qc nc cc] w fun e w' => e = .returned (.tuple #[.agg #[.int .i64 0, .int .i64 0], .bool false]) ∧ Below w.heap.size w w' := by
  obtain ⟨hA, hZ, hW, hS⟩ := box4 w (.int .i64 pc) (.slice qs n cp) 55 51 (.int .i64 0) (.int .i64 0)
  have HA : Hid (_ = _) := hA
  have HZ : Hid (_ = _) := hZ
  have HW : Hid (Below _ _ _) := hW
  have HR : Hid (Rd w qs st) := hr
  have HRC : Hid (I.RdR w qc rl) := hrc
  have HL : Hid (st.length = n) := hl
  have HLC : Hid (rl.length = nc) := hlc
  have HNO : Hid (¬ (CpuR pc st ∧ I.CodeR rl ∧ pc < (nc : Int))) := hno
  obtain ⟨b0, hB0⟩ := cpu_bool pc st
  have HB0 : Hid (b0 = true ↔ CpuR pc st) := hB0
  obtain ⟨b1, hB1⟩ := I.code_bool rl
  have HB1 : Hid (b1 = true ↔ I.CodeR rl) := hB1
  clear hA hZ hW hS hr hrc hl hlc hno hB0 hB1
  go_enter Try.func69, Try.ntmps69
  go_wp2_with fail
  refine (cpuokI qs pc st n cp b0 HL.out hn HB0.out _ (HR.out.keep HW.out (Nat.le_refl _))).mono ?_
  rintro e w1 ⟨rfl, hb1⟩
  have HA1 : Hid (_ = _) := row_on HA.out hb1
  have HZ1 : Hid (_ = _) := row_on HZ.out hb1
  have HW1 : Hid (Below w.heap.size w w1) := HW.out.trans (hb1.mono HW.out.size)
  clear hb1 HA HZ HW
  cases b0
  · have kz := row2_cells HZ1.out
    go_wp2
    refine bodyPost_ret (v := .tuple #[.agg #[.int .i64 0, .int .i64 0], .bool false]) (by simp [results, Try.results69, go_sem, kz]) rfl ⟨rfl, ?_⟩
    exact (HW1.out.setCell (by simp) _).setCell (by simp) _
  · have HC : Hid (CpuR pc st) := HB0.out.1 rfl
    go_wp2_with fail
    refine (I.codeokI qc rl nc cc b1 HLC.out hnc HB1.out _ (HRC.out.keep HW1.out (Nat.le_refl _))).mono ?_
    rintro e w2 ⟨rfl, hb2⟩
    have HA2 : Hid (_ = _) := row_on HA1.out hb2
    have HZ2 : Hid (_ = _) := row_on HZ1.out hb2
    have HW2 : Hid (Below w.heap.size w w2) := HW1.out.trans (hb2.mono HW1.out.size)
    clear hb2 HA1 HZ1 HW1
    have ka := row2_cells HA2.out
    have kz := row2_cells HZ2.out
    cases b1
    · go_wp2
      refine bodyPost_ret (v := .tuple #[.agg #[.int .i64 0, .int .i64 0], .bool false]) (by simp [results, Try.results69, go_sem, kz]) rfl ⟨rfl, ?_⟩
      exact (HW2.out.setCell (by simp) _).setCell (by simp) _
    · have hge : (nc : Int) ≤ pc := by
        have := HNO.out
        have h1 := HB1.out.1 rfl
        have h2 := HC.out
        by_cases hh : pc < (nc : Int)
        · exact absurd ⟨h2, h1, hh⟩ this
        · omega
      go_wp2
      refine bodyPost_ret (v := .tuple #[.agg #[.int .i64 0, .int .i64 0], .bool false]) (by simp [results, Try.results69, go_sem, kz]) rfl ⟨rfl, ?_⟩
      exact (HW2.out.setCell (by simp) _).setCell (by simp) _
end Go.Proofs.Ythnocibkgpofnaa
