/-
  Proved: for every text of bytes the call of FnRunCosts returns true: what a drawn run costs is what the specification tells, and with more to spend it costs no less (texts of more than 1048576 bytes the law itself lets by). No conditions.
-/
import Derived.Test.YthnocibkgpofnaaRows
import Derived.Test.YthnocibkgpofnaaRuns7
import Derived.Test.YthnocibkgpofnaaDraws7
import Derived.Test.YthnocibkgpofnaaOpen6
import Derived.OpenShut
import Derived.ShutString
import Derived.ChangeOld
import Derived.Below
import Derived.OpenVars
import Derived.Deep.DeepHandedRow
namespace Go.Proofs.Ythnocibkgpofnaa.fnRunCosts
open Go.ChangeShapes Go.WideShapes Go.ChangeAt Go.RowKit Go.PlainAid
open Go.ChangeMaps (open_string shut_string)
set_option linter.unusedVariables false

theorem own : ownKnob Try.prog.godebug = none := by kernel_rfl
theorem laidOut : laidOutB Try.prog = true := by kernel_rfl

set_option maxRecDepth 100000 in
set_option maxHeartbeats 4000000 in
theorem runcosts_in (a0 : Option Addr) (len0 cap0 : Nat) (hb : len0 ≤ 1048576) (w : World) (hcode : D.CodeOk w w.heap.size a0 len0) :
    Calls Try.prog 6 #[.slice a0 len0 cap0] w fun e w' => e = .returned (.bool true) ∧ Below w.heap.size w w' := by
  go_enter Try.func6, Try.ntmps6
  go_wp2_with fail
  refine (D.big5 a0 len0 cap0 (by omega) _).mono ?_
  rintro e w0 ⟨rfl, rfl⟩
  rw [decide_eq_false (by omega)]
  go_wp2_with fail
  refine (I.drawRun a0 len0 cap0 _ hcode).mono ?_
  rintro e w1 ⟨g, n, c, ys, ga, m, ce, f, s, most, rfl, hyl, hn46, hrc, hcl, hm64, hra, hmo, hb1⟩
  have HYL : Hid (ys.length = n) := hyl
  have HCL : Hid (ce.length = m) := hcl
  have hn1 : n ≤ 1048576 := by omega
  have hm1 : m ≤ 1048576 := by omega
  obtain ⟨b, hB⟩ := I.code_bool ys
  have HB : Hid (b = true ↔ I.CodeR ys) := hB
  obtain ⟨Mn, hMn⟩ : ∃ Mn, most.toNat = Mn := ⟨_, rfl⟩
  obtain ⟨X, T, hX⟩ : ∃ X T, runR b ys f s most Mn 0 [] ce 0 = (X, T) := ⟨_, _, rfl⟩
  obtain ⟨Z, U, hZ⟩ : ∃ Z U, runR b ys f s 2000 2000 0 [] ce 0 = (Z, U) := ⟨_, _, rfl⟩
  have HMm : Hid (min most 5000 = most) := by show _ = _; omega
  have HMn : Hid (most.toNat = Mn) := hMn
  have HM2 : Hid (min (2000 : Int) 5000 = 2000) := by show _ = _; omega
  have HMn2 : Hid ((2000 : Int).toNat = 2000) := rfl
  have HX : Hid (runR b ys f s most Mn 0 [] ce 0 = (X, T)) := hX
  have HZ : Hid (runR b ys f s 2000 2000 0 [] ce 0 = (Z, U)) := hZ
  have hX0 : 0 ≤ X := by have h := run_ge (c := b) (rl := ys) (f := f) (s := s) (most := most) Mn 0 [] ce 0; rw [hX] at h; exact h
  have hXm : X ≤ max 0 most := by have h := run_le (c := b) (rl := ys) (f := f) (s := s) (most := most) Mn 0 [] ce 0; rw [hX] at h; exact h
  have hXZ : X ≤ Z := by have h := run_mono (c := b) (rl := ys) (f := f) (s := s) (most := most) (most' := 2000) (by omega) Mn 2000 0 [] ce 0 (by decide); rw [hX, hZ] at h; exact h
  have HA2 : Hid (((w1.alloc (.cells #[.slice (some ⟨ga, 0, none⟩) m 64] 34)).alloc (.cells #[.int .i64 f, .int .i64 s] 36)).heap[w1.heap.size]? = some (.cells #[.slice (some ⟨ga, 0, none⟩) m 64] 34)) := al2_1 w1 _ _
  have HG2 : Hid (((w1.alloc (.cells #[.slice (some ⟨ga, 0, none⟩) m 64] 34)).alloc (.cells #[.int .i64 f, .int .i64 s] 36)).heap[w1.heap.size + 1]? = some (.cells #[.int .i64 f, .int .i64 s] 36)) := al2_2 w1 _ _
  have HRC2 : Hid (I.RdR ((w1.alloc (.cells #[.slice (some ⟨ga, 0, none⟩) m 64] 34)).alloc (.cells #[.int .i64 f, .int .i64 s] 36)) (some ⟨g, 0, none⟩) ys) := hrc.keep (al2_b w1 _ _) (Nat.le_refl _)
  have HRA2 : Hid (Rd ((w1.alloc (.cells #[.slice (some ⟨ga, 0, none⟩) m 64] 34)).alloc (.cells #[.int .i64 f, .int .i64 s] 36)) (some ⟨ga, 0, none⟩) ce) := hra.keep (al2_b w1 _ _) (Nat.le_refl _)
  have HW2 : Hid (Below w0.heap.size w0 ((w1.alloc (.cells #[.slice (some ⟨ga, 0, none⟩) m 64] 34)).alloc (.cells #[.int .i64 f, .int .i64 s] 36))) := bel_on (Nat.le_refl _) hb1 (al2_b w1 _ _)
  have hno : ¬ (2000 < most) := by omega
  have HXm : Hid (X ≤ max 0 most) := hXm
  clear hyl hcl hrc hra hb1 hB hMn hX hZ hXm
  have kA := row1_cells HA2.out
  have kR := row2_cells HG2.out
  go_wp2_with fail
  clear kA kR
  refine (costRunI (some ⟨g, 0, none⟩) ys n c (some ⟨ga, 0, none⟩) ce m 64 f s most most Mn b X T HYL.out hn1 HCL.out hm1 HB.out HMm.out HMn.out HX.out _ (HRC2.out) (HRA2.out)).mono ?_
  rintro e w3 ⟨rfl, hb3⟩
  have HA3 : Hid (w3.heap[w1.heap.size]? = some (.cells #[.slice (some ⟨ga, 0, none⟩) m 64] 34)) := row_on HA2.out hb3
  have HG3 : Hid (w3.heap[w1.heap.size + 1]? = some (.cells #[.int .i64 f, .int .i64 s] 36)) := row_on HG2.out hb3
  have HRC3 : Hid (I.RdR w3 (some ⟨g, 0, none⟩) ys) := HRC2.out.keep hb3 (Nat.le_refl _)
  have HRA3 : Hid (Rd w3 (some ⟨ga, 0, none⟩) ce) := HRA2.out.keep hb3 (Nat.le_refl _)
  have HW3 : Hid (Below w0.heap.size w0 w3) := bel_on (Nat.le_refl _) HW2.out hb3
  clear hb3 HA2 HG2 HRC2 HRA2 HW2
  have kA := row1_cells HA3.out
  have kR := row2_cells HG3.out
  go_wp2_with fail
  clear kA kR
  refine (costRunS (some ⟨g, 0, none⟩) ys n c ⟨ga, 0, none⟩ ce m 64 f s most most Mn b X T HYL.out hn1 HCL.out hm1 HB.out HMm.out HMn.out HX.out _ (HRC3.out) (HRA3.out)).mono ?_
  rintro e w4 ⟨rfl, hb4⟩
  have HA4 : Hid (w4.heap[w1.heap.size]? = some (.cells #[.slice (some ⟨ga, 0, none⟩) m 64] 34)) := row_on HA3.out hb4
  have HG4 : Hid (w4.heap[w1.heap.size + 1]? = some (.cells #[.int .i64 f, .int .i64 s] 36)) := row_on HG3.out hb4
  have HRC4 : Hid (I.RdR w4 (some ⟨g, 0, none⟩) ys) := HRC3.out.keep hb4 (Nat.le_refl _)
  have HRA4 : Hid (Rd w4 (some ⟨ga, 0, none⟩) ce) := HRA3.out.keep hb4 (Nat.le_refl _)
  have HW4 : Hid (Below w0.heap.size w0 w4) := bel_on (Nat.le_refl _) HW3.out hb4
  clear hb4 HA3 HG3 HRC3 HRA3 HW3
  have kA := row1_cells HA4.out
  have kR := row2_cells HG4.out
  go_wp2_with fail
  clear kA kR
  refine (costRunI (some ⟨g, 0, none⟩) ys n c (some ⟨ga, 0, none⟩) ce m 64 f s 2000 2000 2000 b Z U HYL.out hn1 HCL.out hm1 HB.out HM2.out HMn2.out HZ.out _ (HRC4.out) (HRA4.out)).mono ?_
  rintro e w5 ⟨rfl, hb5⟩
  have HA5 : Hid (w5.heap[w1.heap.size]? = some (.cells #[.slice (some ⟨ga, 0, none⟩) m 64] 34)) := row_on HA4.out hb5
  have HG5 : Hid (w5.heap[w1.heap.size + 1]? = some (.cells #[.int .i64 f, .int .i64 s] 36)) := row_on HG4.out hb5
  have HRC5 : Hid (I.RdR w5 (some ⟨g, 0, none⟩) ys) := HRC4.out.keep hb5 (Nat.le_refl _)
  have HRA5 : Hid (Rd w5 (some ⟨ga, 0, none⟩) ce) := HRA4.out.keep hb5 (Nat.le_refl _)
  have HW5 : Hid (Below w0.heap.size w0 w5) := bel_on (Nat.le_refl _) HW4.out hb5
  clear hb5 HA4 HG4 HRC4 HRA4 HW4
  by_cases hneg : most < 0
  · obtain rfl : X = 0 := by have := HXm.out; omega
    go_wp2
    go_ret
    exact ⟨rfl, HW5.out⟩
  · have hle : X ≤ most := by have := HXm.out; omega
    go_wp2
    go_ret
    exact ⟨rfl, HW5.out⟩

theorem walk (a0 : Option Addr) (len0 cap0 : Nat) (z0 : List Int) (w : World) (w0 : D.IsRow .u8 w a0 len0 cap0 z0) :
    Calls Try.prog 6 #[.slice a0 len0 cap0] w fun e w' => e = .returned (.bool true) ∧ Below w.heap.size w w' := by
  have hlen : len0 ≤ 9223372036854775807 := by
    rcases w0 with ⟨_, h, _⟩ | ⟨x, _, h1, h2, _⟩
    · omega
    · unfold maxLen at h2; omega
  by_cases hb : len0 ≤ 1048576
  · exact runcosts_in a0 len0 cap0 hb w (D.code_of_row w0 hb)
  · have hb' : 1048576 < len0 := by omega
    go_enter Try.func6, Try.ntmps6
    go_wp2_with fail
    refine (D.big5 a0 len0 cap0 hlen _).mono ?_
    rintro e w1 ⟨rfl, rfl⟩
    rw [decide_eq_true (by omega)]
    go_wp2
    go_ret
    exact ⟨rfl, Below.refl _ _⟩

set_option maxRecDepth 100000 in
theorem lifted (os : Os) (started : os.Started) (H : Type) (enc : TypeId × Value → H) :
    ReturnsInHanded {} Try.checked os 6 .any (Rows.fnRunCostsSpec.pre6 enc Try.prog Try.f6 Rows.fnRunCostsRow.domain false) (Rows.fnRunCostsSpec.post enc Try.prog Try.f6 false true false false) := by
  refine returnsInHanded_of_change (C := Try.checked) own started (by kernel_rfl) Try.func6
    (ChangeSpec.witness6 (enc := enc) (C := Try.checked) false ⟨#[], #[.slice none 0 0], []⟩ 8 (by kernel_rfl) (by kernel_rfl) (by kernel_rfl) (by kernel_rfl)) ?_
  intro W base args ds gs before hval0 hW hcnd _
  have hval : ∀ (j : Nat) t v, Try.f6.params[j]? = some t → args[j]? = some v → Value.okWide Try.prog W .any base t v := hval0
  have hW' := hW
  obtain ⟨p, q, hA0, hV, rfl, hfz, hnd⟩ := hW
  have hA : DataW.TrodAll enc Try.prog W 0 (fun _ => true) true Try.f6.params.toList args.toList ds p := hA0
  rw [Try.params6] at hA hval
  obtain ⟨v0, vs0, d0, ds0, p0, q0, hargs, rfl, rfl, h0, r0⟩ := trodAll_cons hA
  obtain ⟨rfl, rfl, rfl⟩ := trodAll_nil r0
  obtain rfl : args = #[v0] := by cases args; simp_all
  obtain ⟨rfl, rfl⟩ := trodVars_none hV
  have k0 := h0
  have lt0 : ∀ x ∈ p0, x.block < W.heap.size := by obtain ⟨m, hm⟩ := k0; exact DataW.trod_lt m _ _ _ hm
  obtain ⟨a0, len0, cap0, z0, rfl, w0⟩ := D.open_code (hval 0 41 v0 rfl rfl) h0
  clear hA0 hval0
  refine (walk a0 len0 cap0 z0 W w0).mono fun e W' ⟨he, bel⟩ => ?_
  subst he
  exact ⟨_, rfl, _, _, _, [], _, [], hW', trodAll_mk1 (shut_bool Try.underlying4 _), (trodAll_cons_mk (Below.trod laidOut (by kernel_rfl) (of_decide_eq_true (by kernel_rfl)) k0 bel lt0) trodAll_mk0), rfl, bel.frame _, fun h => by cases h⟩

theorem over : Rows.fnRunCostsRow.holds Try.pinned (OpenSpec.ofChange Rows.fnRunCostsSpec) :=
  OpenClaim.holds_of_wide 6 Try.f6 rfl rfl rfl rfl rfl rfl rfl ⟨rfl, rfl, rfl, rfl, rfl⟩ rfl rfl rfl rfl rfl (by kernel_rfl) Try.func6 (by kernel_rfl)
    (of_decide_eq_true (by kernel_rfl)) (by unfold Func.isWrapper; first | (rw [if_pos (by decide +kernel)]; kernel_rfl) | (rw [if_neg (by decide +kernel)]; exact ⟨rfl, rfl⟩))
    (fun os started H enc _ => lifted os started H enc)

end Go.Proofs.Ythnocibkgpofnaa.fnRunCosts
namespace Go.Proofs.Ythnocibkgpofnaa
theorem fnRunCosts_holds : Rows.FnRunCostsSaid :=
  fnRunCosts.over
#print axioms fnRunCosts_holds
end Go.Proofs.Ythnocibkgpofnaa
