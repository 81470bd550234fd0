/-
  Proved: for every text of bytes the call of FnWorst returns true: no run of drawn code without loops costs more than it may at most, and what it may at most is what the specification tells (texts of more than 1048576 bytes the law itself lets by). No conditions.
-/
import Derived.Test.YthnocibkgpofnaaRows
import Derived.Test.YthnocibkgpofnaaWorstM
import Derived.Test.YthnocibkgpofnaaWorstS
import Derived.Test.YthnocibkgpofnaaDrawR7
import Derived.Test.YthnocibkgpofnaaOpen6
import Derived.OpenShut
import Derived.ShutString
import Derived.ChangeOld
import Derived.Below
import Derived.OpenVars
import Derived.Deep.DeepHandedRow
namespace Go.Proofs.Ythnocibkgpofnaa.fnWorst
open Go.ChangeShapes Go.WideShapes Go.ChangeAt Go.RowKit Go.PlainAid
open Go.ChangeMaps (open_string shut_string)
set_option linter.unusedVariables false

theorem own : ownKnob Try.prog.godebug = none := by kernel_rfl
theorem laidOut : laidOutB Try.prog = true := by kernel_rfl

theorem code_mono {w : World} {B B' : Nat} {a : Option Addr} {len : Nat} (h : D.CodeOk w B a len) (hB : B ≤ B') : D.CodeOk w B' a len :=
  ⟨h.1, fun h0 => by obtain ⟨b, off, ha, hb, hc⟩ := h.2 h0; exact ⟨b, off, ha, by omega, hc⟩⟩
set_option maxRecDepth 100000 in
set_option maxHeartbeats 4000000 in
theorem worst_in (a0 : Option Addr) (len0 cap0 : Nat) (hb : len0 ≤ 1048576) (w : World) (hcode : D.CodeOk w w.heap.size a0 len0) :
    Calls Try.prog 4 #[.slice a0 len0 cap0] w fun e w' => e = .returned (.bool true) ∧ Below w.heap.size w w' := by
  go_enter Try.func4, Try.ntmps4
  go_wp2_with fail
  refine (D.big5 a0 len0 cap0 (by omega) _).mono ?_
  rintro e w0 ⟨rfl, rfl⟩
  rw [decide_eq_false (by omega)]
  go_wp2_with fail
  refine (I.drawLoopless a0 len0 cap0 _ hcode).mono ?_
  rintro e w1 ⟨g, n, c, ys, rfl, hyl, hn46, hfw, hown, hb1⟩
  have HYL : Hid (ys.length = n) := hyl
  have HF : Hid (I.FwdR ys) := hfw
  have HOC1 : Hid (I.OwnI w1 w0.heap.size (.slice (some ⟨g, 0, none⟩) n c) ys) := hown
  have HW1 : Hid (Below w0.heap.size w0 w1) := hb1
  have hn1 : n ≤ 1048576 := by omega
  obtain ⟨V, hV⟩ : ∃ V, I.wst ys 0 = V := ⟨_, rfl⟩
  have HV : Hid ((if true then I.wst ys 0 else 0) = V) := hV
  have HVw : Hid (I.wst ys 0 = V) := hV
  have hVb := I.wst_bd ys 60 0 (by omega)
  rw [hV] at hVb
  have HCO : Hid (D.CodeOk w0 w0.heap.size a0 len0) := hcode
  clear hyl hfw hown hb1 hV hcode
  go_wp2_with fail
  refine (I.worstI (some ⟨g, 0, none⟩) ys n c true V HYL.out (by omega) ⟨(fun _ => HF.out), (fun _ => rfl)⟩ HV.out _ HOC1.out.rd').mono ?_
  rintro e w2 ⟨rfl, hb2⟩
  have HOC2 : Hid (I.OwnI w2 w0.heap.size (.slice (some ⟨g, 0, none⟩) n c) ys) := HOC1.out.on hb2
  have HW2 : Hid (Below w0.heap.size w0 w2) := bel_on (Nat.le_refl _) HW1.out hb2
  clear hb2 HOC1 HW1
  go_wp2_with fail
  refine (I.worstS (some ⟨g, 0, none⟩) ys n c true V HYL.out hn1 ⟨(fun _ => HF.out), (fun _ => rfl)⟩ HV.out _ HOC2.out.rd').mono ?_
  rintro e w3 ⟨rfl, hb3⟩
  have HOC3 : Hid (I.OwnI w3 w0.heap.size (.slice (some ⟨g, 0, none⟩) n c) ys) := HOC2.out.on hb3
  have HW3 : Hid (Below w0.heap.size w0 w3) := bel_on (Nat.le_refl _) HW2.out hb3
  clear hb3 HOC2 HW2
  have HCO3 : Hid (D.CodeOk w3 w3.heap.size a0 len0) := code_mono (D.code_below HCO.out HW3.out) HW3.out.size
  go_wp2_with fail
  refine (I.drawRun a0 len0 cap0 _ HCO3.out).mono ?_
  rintro e w4 ⟨g', n', c', ys', ga, m, ce, f, s, most, rfl, _, _, _, hcl, hm64, hra, _, hb4⟩
  have HCL : Hid (ce.length = m) := hcl
  have hm1 : m ≤ 1048576 := by omega
  obtain ⟨X, T, hX⟩ : ∃ X T, runR true ys f s 5000 5000 0 [] ce 0 = (X, T) := ⟨_, _, rfl⟩
  obtain ⟨Vn, hVn⟩ : ∃ Vn, V.toNat = Vn := ⟨_, rfl⟩
  have hnil : CpuR 0 [] := ⟨by simp, ⟨by decide, by decide⟩, fun i h => absurd h (Nat.not_lt_zero _)⟩
  have hS := run_same HF.out (f := f) (s := s) (most := 5000) (most' := V) 5000 Vn 0 [] ce 0 hnil (by show I.wst ys 0 ≤ _; rw [HVw.out]; omega) (by show I.wst ys 0 ≤ _; rw [HVw.out]; omega) (by show 0 + I.wst ys 0 ≤ _; rw [HVw.out]; omega) (by show 0 + I.wst ys 0 ≤ _; rw [HVw.out]; omega)
  have hXV : X ≤ V := by have h := hS.2; rw [hX] at h; have e : I.wst ys (0 : Int).toNat = V := HVw.out; rw [e] at h; simpa using h
  have HY : Hid (runR true ys f s V Vn 0 [] ce 0 = (X, T)) := by show _ = _; rw [← hS.1, hX]
  have HX : Hid (runR true ys f s 5000 5000 0 [] ce 0 = (X, T)) := hX
  have HM5 : Hid (min (5000 : Int) 5000 = 5000) := by show _ = _; omega
  have HMn5 : Hid ((5000 : Int).toNat = 5000) := rfl
  have HMV : Hid (min V 5000 = V) := by show _ = _; omega
  have HVn : Hid (V.toNat = Vn) := hVn
  obtain ⟨kA, hkA⟩ : ∃ k, w4.heap.size = k := ⟨_, rfl⟩
  have HA5 : Hid (((w4.alloc (.cells #[.slice (some ⟨ga, 0, none⟩) m 64] 34)).alloc (.cells #[.int .i64 f, .int .i64 s] 36)).heap[kA]? = some (.cells #[.slice (some ⟨ga, 0, none⟩) m 64] 34)) := by show _ = _; rw [← hkA]; exact al2_1 w4 _ _
  have HG5 : Hid (((w4.alloc (.cells #[.slice (some ⟨ga, 0, none⟩) m 64] 34)).alloc (.cells #[.int .i64 f, .int .i64 s] 36)).heap[kA + 1]? = some (.cells #[.int .i64 f, .int .i64 s] 36)) := by show _ = _; rw [← hkA]; exact al2_2 w4 _ _
  have HRA5 : Hid (Rd ((w4.alloc (.cells #[.slice (some ⟨ga, 0, none⟩) m 64] 34)).alloc (.cells #[.int .i64 f, .int .i64 s] 36)) (some ⟨ga, 0, none⟩) ce) := hra.keep (al2_b w4 _ _) (Nat.le_refl _)
  have HOC5 : Hid (I.OwnI ((w4.alloc (.cells #[.slice (some ⟨ga, 0, none⟩) m 64] 34)).alloc (.cells #[.int .i64 f, .int .i64 s] 36)) w0.heap.size (.slice (some ⟨g, 0, none⟩) n c) ys) := (HOC3.out.on hb4).on (al2_b w4 _ _)
  have HW5 : Hid (Below w0.heap.size w0 ((w4.alloc (.cells #[.slice (some ⟨ga, 0, none⟩) m 64] 34)).alloc (.cells #[.int .i64 f, .int .i64 s] 36))) := bel_on (Nat.le_refl _) (bel_on (Nat.le_refl _) HW3.out hb4) (al2_b w4 _ _)
  clear hcl hra hb4 hX hVn hnil hS HOC3 HW3 HCO HCO3
  have kkA := row1_cells HA5.out
  have kkR := row2_cells HG5.out
  go_wp2_with fail
  clear kkA kkR
  refine (costRunI (some ⟨g, 0, none⟩) ys n c (some ⟨ga, 0, none⟩) ce m 64 f s 5000 5000 5000 true X T HYL.out hn1 HCL.out hm1 ⟨(fun _ => HF.out.1), (fun _ => rfl)⟩ HM5.out HMn5.out HX.out _ (HOC5.out.rd') (HRA5.out)).mono ?_
  rintro e w6 ⟨rfl, hb6⟩
  have HOC6 : Hid (I.OwnI w6 w0.heap.size (.slice (some ⟨g, 0, none⟩) n c) ys) := HOC5.out.on hb6
  have HW6 : Hid (Below w0.heap.size w0 w6) := bel_on (Nat.le_refl _) HW5.out hb6
  have HA6 : Hid (w6.heap[kA]? = some (.cells #[.slice (some ⟨ga, 0, none⟩) m 64] 34)) := row_on HA5.out hb6
  have HG6 : Hid (w6.heap[kA + 1]? = some (.cells #[.int .i64 f, .int .i64 s] 36)) := row_on HG5.out hb6
  have HRA6 : Hid (Rd w6 (some ⟨ga, 0, none⟩) ce) := HRA5.out.keep hb6 (Nat.le_refl _)
  clear hb6 HOC5 HW5 HA5 HG5 HRA5
  have kkA := row1_cells HA6.out
  have kkR := row2_cells HG6.out
  go_wp2_with fail
  clear kkA kkR
  refine (costRunI (some ⟨g, 0, none⟩) ys n c (some ⟨ga, 0, none⟩) ce m 64 f s V V Vn true X T HYL.out hn1 HCL.out hm1 ⟨(fun _ => HF.out.1), (fun _ => rfl)⟩ HMV.out HVn.out HY.out _ (HOC6.out.rd') (HRA6.out)).mono ?_
  rintro e w7 ⟨rfl, hb7⟩
  have HOC7 : Hid (I.OwnI w7 w0.heap.size (.slice (some ⟨g, 0, none⟩) n c) ys) := HOC6.out.on hb7
  have HW7 : Hid (Below w0.heap.size w0 w7) := bel_on (Nat.le_refl _) HW6.out hb7
  have HA7 : Hid (w7.heap[kA]? = some (.cells #[.slice (some ⟨ga, 0, none⟩) m 64] 34)) := row_on HA6.out hb7
  have HG7 : Hid (w7.heap[kA + 1]? = some (.cells #[.int .i64 f, .int .i64 s] 36)) := row_on HG6.out hb7
  have HRA7 : Hid (Rd w7 (some ⟨ga, 0, none⟩) ce) := HRA6.out.keep hb7 (Nat.le_refl _)
  clear hb7 HOC6 HW6 HA6 HG6 HRA6
  go_wp2_with fail
  refine (I.forwardI (some ⟨g, 0, none⟩) ys n c true HYL.out (by omega) ⟨(fun _ => HF.out), (fun _ => rfl)⟩ _ HOC7.out.rd').mono ?_
  rintro e w8 ⟨rfl, hb8⟩
  have HW8 : Hid (Below w0.heap.size w0 w8) := bel_on (Nat.le_refl _) HW7.out hb8
  clear hb8 HW7 HOC7 HA7 HG7 HRA7
  by_cases hn0 : n = 0
  · subst hn0
    obtain rfl : V = 0 := by rw [← HVw.out]; exact I.wst_end (by have := HYL.out; omega)
    go_wp2
    go_ret
    exact ⟨rfl, HW8.out⟩
  · have hp : 0 < ys.length := by have := HYL.out; omega
    have hv1 := wst_pos hp
    have hv2 := costN_bd ys[0].1
    rw [HVw.out] at hv1
    have hV0 : (V == 0) = false := by simp; omega
    have hn0' : ((n : Int) == 0) = false := by simp; omega
    clear hv1 hv2 hp
    go_wp2
    go_ret
    exact ⟨rfl, HW8.out⟩

theorem walk (a0 : Option Addr) (len0 cap0 : Nat) (z0 : List Int) (w : World) (w0 : D.IsRow .u8 w a0 len0 cap0 z0) :
    Calls Try.prog 4 #[.slice a0 len0 cap0] w fun e w' => e = .returned (.bool true) ∧ Below w.heap.size w w' := by
  have hlen : len0 ≤ 9223372036854775807 := by
    rcases w0 with ⟨_, h, _⟩ | ⟨x, _, h1, h2, _⟩
    · omega
    · unfold maxLen at h2; omega
  by_cases hb : len0 ≤ 1048576
  · exact worst_in a0 len0 cap0 hb w (D.code_of_row w0 hb)
  · have hb' : 1048576 < len0 := by omega
    go_enter Try.func4, Try.ntmps4
    go_wp2_with fail
    refine (D.big5 a0 len0 cap0 hlen _).mono ?_
    rintro e w1 ⟨rfl, rfl⟩
    rw [decide_eq_true (by omega)]
    go_wp2
    go_ret
    exact ⟨rfl, Below.refl _ _⟩

set_option maxRecDepth 100000 in
theorem lifted (os : Os) (started : os.Started) (H : Type) (enc : TypeId × Value → H) :
    ReturnsInHanded {} Try.checked os 4 .any (Rows.fnWorstSpec.pre6 enc Try.prog Try.f4 Rows.fnWorstRow.domain false) (Rows.fnWorstSpec.post enc Try.prog Try.f4 false true false false) := by
  refine returnsInHanded_of_change (C := Try.checked) own started (by kernel_rfl) Try.func4
    (ChangeSpec.witness6 (enc := enc) (C := Try.checked) false ⟨#[], #[.slice none 0 0], []⟩ 8 (by kernel_rfl) (by kernel_rfl) (by kernel_rfl) (by kernel_rfl)) ?_
  intro W base args ds gs before hval0 hW hcnd _
  have hval : ∀ (j : Nat) t v, Try.f4.params[j]? = some t → args[j]? = some v → Value.okWide Try.prog W .any base t v := hval0
  have hW' := hW
  obtain ⟨p, q, hA0, hV, rfl, hfz, hnd⟩ := hW
  have hA : DataW.TrodAll enc Try.prog W 0 (fun _ => true) true Try.f4.params.toList args.toList ds p := hA0
  rw [Try.params4] at hA hval
  obtain ⟨v0, vs0, d0, ds0, p0, q0, hargs, rfl, rfl, h0, r0⟩ := trodAll_cons hA
  obtain ⟨rfl, rfl, rfl⟩ := trodAll_nil r0
  obtain rfl : args = #[v0] := by cases args; simp_all
  obtain ⟨rfl, rfl⟩ := trodVars_none hV
  have k0 := h0
  have lt0 : ∀ x ∈ p0, x.block < W.heap.size := by obtain ⟨m, hm⟩ := k0; exact DataW.trod_lt m _ _ _ hm
  obtain ⟨a0, len0, cap0, z0, rfl, w0⟩ := D.open_code (hval 0 41 v0 rfl rfl) h0
  clear hA0 hval0
  refine (walk a0 len0 cap0 z0 W w0).mono fun e W' ⟨he, bel⟩ => ?_
  subst he
  exact ⟨_, rfl, _, _, _, [], _, [], hW', trodAll_mk1 (shut_bool Try.underlying4 _), (trodAll_cons_mk (Below.trod laidOut (by kernel_rfl) (of_decide_eq_true (by kernel_rfl)) k0 bel lt0) trodAll_mk0), rfl, bel.frame _, fun h => by cases h⟩

theorem over : Rows.fnWorstRow.holds Try.pinned (OpenSpec.ofChange Rows.fnWorstSpec) :=
  OpenClaim.holds_of_wide 4 Try.f4 rfl rfl rfl rfl rfl rfl rfl ⟨rfl, rfl, rfl, rfl, rfl⟩ rfl rfl rfl rfl rfl (by kernel_rfl) Try.func4 (by kernel_rfl)
    (of_decide_eq_true (by kernel_rfl)) (by unfold Func.isWrapper; first | (rw [if_pos (by decide +kernel)]; kernel_rfl) | (rw [if_neg (by decide +kernel)]; exact ⟨rfl, rfl⟩))
    (fun os started H enc _ => lifted os started H enc)

end Go.Proofs.Ythnocibkgpofnaa.fnWorst
namespace Go.Proofs.Ythnocibkgpofnaa
theorem fnWorst_holds : Rows.FnWorstSaid :=
  fnWorst.over
#print axioms fnWorst_holds
end Go.Proofs.Ythnocibkgpofnaa
