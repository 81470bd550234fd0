/-
  Proved: for every text of bytes the call of FnLoops returns true: code that goes back is not told how much it costs, and a run of it stops at what it may cost (texts of more than 1048576 bytes the law itself lets by). No conditions.
-/
import Derived.Test.YthnocibkgpofnaaRows
import Derived.Test.YthnocibkgpofnaaLoopM
import Derived.Test.YthnocibkgpofnaaWorstI
import Derived.Test.YthnocibkgpofnaaDrawR7
import Derived.Test.YthnocibkgpofnaaOpen6
import Derived.OpenShut
import Derived.ShutString
import Derived.ChangeOld
import Derived.Below
import Derived.OpenVars
import Derived.Deep.DeepHandedRow
namespace Go.Proofs.Ythnocibkgpofnaa.fnLoops
open Go.ChangeShapes Go.WideShapes Go.ChangeAt Go.RowKit Go.PlainAid
open Go.ChangeMaps (open_string shut_string)
set_option linter.unusedVariables false

theorem own : ownKnob Try.prog.godebug = none := by kernel_rfl
theorem laidOut : laidOutB Try.prog = true := by kernel_rfl

theorem code_mono {w : World} {B B' : Nat} {a : Option Addr} {len : Nat} (h : D.CodeOk w B a len) (hB : B ≤ B') : D.CodeOk w B' a len :=
  ⟨h.1, fun h0 => by obtain ⟨b, off, ha, hb, hc⟩ := h.2 h0; exact ⟨b, off, ha, by omega, hc⟩⟩
theorem ownI_app {W0 W w6 : World} {B n : Nat} {v v' : Value} {xs ys : List (Int × Int)} {news : List Value} {o : Obj} (hW : Below B W0 W) (hO : I.OwnI W B v xs) (hB : B ≤ W0.heap.size)
    (hown' : w6.ownsRow B 51 2 v' n (I.regsV xs ++ news)) (hgrow : (W.alloc o).grownBy w6 v.ownBlock) (hnews : news = I.regsV ys) (hn : n = xs.length + ys.length) :
    I.OwnI w6 B v' (xs ++ ys) ∧ Below B W0 w6 := by
  refine ⟨?_, ?_⟩
  · subst hn hnews
    unfold I.OwnI
    rw [I.regsV_append, List.length_append]
    exact hown'
  · have h1 : Below B W0 (W.alloc o) := hW.alloc (Nat.le_trans hB hW.size) o
    exact h1.grown hgrow (Nat.le_trans hB h1.size) (fun k hk => own_ge hO k hk)
set_option maxRecDepth 100000 in
set_option maxHeartbeats 4000000 in
theorem loops_in (a0 : Option Addr) (len0 cap0 : Nat) (hb : len0 ≤ 1048576) (w : World) (hcode : D.CodeOk w w.heap.size a0 len0) :
    Calls Try.prog 5 #[.slice a0 len0 cap0] w fun e w' => e = .returned (.bool true) ∧ Below w.heap.size w w' := by
  obtain ⟨i0, hi, hz0, hz1, hz2⟩ := info_parts I.infoR
  go_enter Try.func5, Try.ntmps5
  go_wp2_with fail
  refine (D.big5 a0 len0 cap0 (by omega) _).mono ?_
  rintro e w0 ⟨rfl, rfl⟩
  rw [decide_eq_false (by omega)]
  go_wp2_with fail
  refine (D.places7 w0.heap.size a0 len0 cap0 _ hcode (Nat.le_refl _)).mono ?_
  rintro e w1 ⟨gp, cp, p0, p1, p2, p3, rfl, h0, h1, h2, h3, hgp, c0, c1, c2, c3, hgl, hb1⟩
  have HCO : Hid (D.CodeOk w0 w0.heap.size a0 len0) := hcode
  have HW1 : Hid (Below w0.heap.size w0 w1) := hb1
  obtain ⟨q, hq⟩ : ∃ q, p0 % 8 = q := ⟨_, rfl⟩
  have hq2 : p0.tmod 8 = q := by rw [Int.tmod_eq_emod_of_nonneg h0.1]; exact hq
  have hqb : 0 ≤ q ∧ q ≤ 7 := by omega
  obtain ⟨nn, hnn⟩ : ∃ nn : Nat, 1 + q = (nn : Int) := ⟨(1 + q).toNat, by omega⟩
  have hn8 : 1 ≤ nn ∧ nn ≤ 8 := by omega
  obtain ⟨r, hr⟩ : ∃ r : Nat, p1 % (nn : Int) = (r : Int) := ⟨(p1 % (nn : Int)).toNat, by have := Int.emod_nonneg p1 (show (nn : Int) ≠ 0 by omega); omega⟩
  have hr2 : p1.tmod (nn : Int) = (r : Int) := by rw [Int.tmod_eq_emod_of_nonneg h1.1]; exact hr
  have hrn : r < nn := by have := Int.emod_lt_of_pos p1 (show 0 < (nn : Int) by omega); omega
  obtain ⟨mo, hmo⟩ : ∃ mo, p2 % 300 = mo := ⟨_, rfl⟩
  have hmo2 : p2.tmod 300 = mo := by rw [Int.tmod_eq_emod_of_nonneg h2.1]; exact hmo
  have hmob : 0 ≤ mo ∧ mo ≤ 299 := by omega
  have hnz : ¬ (nn : Int) = 0 := by omega
  have HC1 : Hid (w1.cell? ⟨gp, 1, none⟩ = some (.int .i64 p1)) := c1
  have HC2 : Hid (w1.cell? ⟨gp, 2, none⟩ = some (.int .i64 p2)) := c2
  have HO0 : Hid (I.OwnI (w1.alloc (.cells #[] 51)) w1.heap.size (.slice (some ⟨w1.heap.size, 0, none⟩) 0 0) (lp 0)) := I.ownI_empty w1
  have HB0 : Hid (Below w1.heap.size w1 (w1.alloc (.cells #[] 51))) := al1_b w1 _
  clear hcode hb1 h3 c1 c2 c3 hgp
  go_wp2
  go_loopg [5, 6] nn (fun gk v iv wr => ∃ i : Nat, i + gk = nn ∧ iv = .int .i64 i ∧ Hid (I.OwnI wr w1.heap.size v (lp i)) ∧ Hid (Below w1.heap.size w1 wr))
  case atStart => exact ⟨0, by omega, rfl, HO0, HB0⟩
  case round =>
    clear HO0 HB0
    obtain ⟨i, hig, rfl, HO, HB⟩ := hrel
    by_cases hin : i < nn
    · have hii : (i : Int) < (nn : Int) := by omega
      have hown : wr.ownsRow w1.heap.size 51 2 _ (lp i).length (I.regsV (lp i)) := HO.out
      have hll : (lp i).length ≤ 16 := by rw [lp_len]; omega
      have sW := HB.out.size
      go_wp2_with (at_builtin; refine wpList_append_own _ rfl _ _ 32 rfl w1.heap.size 51 i0 (.agg #[.int .i64 0, .int .i64 0]) 2 16 Try.underlying32 hi hz0 hz1 hz2 rfl (by decide) _ _ _ rfl (hown.alloc _) ⟨wr.heap.size, 0, none⟩ 2 2 [.int .i64 17, .int .i64 0, .int .i64 12, .int .i64 0] rfl rfl ?c1a ?c2a ?c3a ?c4a ?c5a ?_)
      case c1a => exact World.news_of_block (cs := #[.int .i64 17, .int .i64 0, .int .i64 12, .int .i64 0]) (t := 51) (fr := (0, 0)) (heap_alloc_new wr _)
      case c2a => simp [Value.oneCell']
      case c3a => unfold maxLen; omega
      case c4a => omega
      case c5a => simp; omega
      intro v' w9 hown9 hgrow hnil
      have hR := ownI_app (ys := [(17, 0), (12, 0)]) HB.out HO.out (Nat.le_refl _) hown9 hgrow rfl rfl
      have HR : Hid (I.OwnI w9 w1.heap.size v' (lp (i + 1)) ∧ Below w1.heap.size w1 w9) := hR
      clear hR hown9 hgrow hown hnil HO HB
      go_wp2
      go_roundg (gk - 1)
      case measure => omega
      case rel => exact ⟨i + 1, by omega, by go_num, HR.out.1, HR.out.2⟩
    · obtain rfl : i = nn := by omega
      have c1 := (HB.out.cell (p := ⟨gp, 1, none⟩) hgl).trans HC1.out
      obtain ⟨tt, htt⟩ : ∃ tt : Int, 2 * (r : Int) = tt := ⟨_, rfl⟩
      have HTT : Hid (tt = ((2 * r : Nat) : Int)) := by show tt = _; omega
      have htb : 0 ≤ tt ∧ tt ≤ 255 ∧ tt ≤ 2 * (i : Int) := by omega
      have hown : wr.ownsRow w1.heap.size 51 2 _ (lp i).length (I.regsV (lp i)) := HO.out
      have hll : (lp i).length ≤ 16 := by rw [lp_len]; omega
      have sW := HB.out.size
      go_wp2_with (at_builtin; refine wpList_append_own _ rfl _ _ 32 rfl w1.heap.size 51 i0 (.agg #[.int .i64 0, .int .i64 0]) 2 16 Try.underlying32 hi hz0 hz1 hz2 rfl (by decide) _ _ _ rfl (hown.alloc _) ⟨wr.heap.size, 0, none⟩ 1 1 [.int .i64 9, .int .i64 tt] rfl rfl ?c1b ?c2b ?c3b ?c4b ?c5b ?_)
      case c1b => exact World.news_of_block (cs := #[.int .i64 9, .int .i64 tt]) (t := 51) (fr := (0, 0)) (heap_alloc_new wr _)
      case c2b => simp [Value.oneCell']
      case c3b => unfold maxLen; omega
      case c4b => omega
      case c5b => simp; omega
      intro v' w3 hown9 hgrow hnil
      have hR := ownI_app (ys := [(9, tt)]) HB.out HO.out (Nat.le_refl _) hown9 hgrow rfl rfl
      obtain ⟨qc, cc, hv, hrd⟩ := I.OwnI.rd hR.1
      subst hv
      have hlen : (lp i ++ [(9, tt)]).length = 2 * i + 1 := lpJ_len i tt
      rw [hlen]
      obtain ⟨nc, hnc⟩ : ∃ nc, 2 * i + 1 = nc := ⟨_, rfl⟩
      rw [hnc]
      have HLC : Hid ((lpJ i tt).length = nc) := by show _ = _; rw [lpJ_len]; exact hnc
      have hncb : nc ≤ 1048576 := by omega
      have HRC3 : Hid (I.RdR w3 qc (lpJ i tt)) := hrd
      have HB3 : Hid (Below w1.heap.size w1 w3) := hR.2
      have c2 := (HB3.out.cell (p := ⟨gp, 2, none⟩) hgl).trans HC2.out
      have HCR : Hid (I.CodeR (lpJ i tt)) := lpJ_code hn8.2 htb.1 htb.2.1
      have HNF : Hid (¬ I.FwdR (lpJ i tt)) := lpJ_not htb.2.2
      obtain ⟨mn, hmn⟩ : ∃ mn, mo.toNat = mn := ⟨_, rfl⟩
      have HMn : Hid (mo.toNat = mn) := hmn
      have HMm : Hid (min mo 5000 = mo) := by show _ = _; omega
      have HX : Hid (runR true (lpJ i tt) 0 1 mo mn 0 [] z64 0 = (mo, 0)) := by
        show _ = _
        rw [HTT.out]
        exact run_loops hn8.2 hrn mn 0 [] z64 0 (.inl ⟨0, by omega, rfl, rfl⟩) (by omega)
      clear hR hown9 hgrow hown hnil HO HB hrd hlen hnc hmn c1 hll
      go_wp2_with fail
      refine (newI _).mono ?_
      rintro e w4 ⟨g4, rfl, hg4, hrow4, hb4⟩
      have HB4 : Hid (Below w1.heap.size w1 w4) := bel_on (Nat.le_refl _) HB3.out hb4
      have HRC4 : Hid (I.RdR w4 qc (lpJ i tt)) := HRC3.out.keep hb4 (Nat.le_refl _)
      have HRA4 : Hid (RowAt w4 g4 z64) := hrow4
      clear hg4 hrow4 hb4 HB3 HRC3 c2
      go_wp2_with fail
      refine (costRunI qc (lpJ i tt) nc cc (some ⟨g4, 0, none⟩) z64 64 64 0 1 mo mo mn true mo 0 HLC.out hncb (by rfl) (by omega) ⟨(fun _ => HCR.out), (fun _ => rfl)⟩ HMm.out HMn.out HX.out _ HRC4.out HRA4.out.rd).mono ?_
      rintro e w5 ⟨rfl, hb5⟩
      have HB5 : Hid (Below w1.heap.size w1 w5) := bel_on (Nat.le_refl _) HB4.out hb5
      have HRC5 : Hid (I.RdR w5 qc (lpJ i tt)) := HRC4.out.keep hb5 (Nat.le_refl _)
      clear hb5 HB4 HRC4 HRA4
      go_wp2_with fail
      refine (I.worstI qc (lpJ i tt) nc cc false 0 HLC.out (by omega) ⟨(fun h => by cases h), (fun h => absurd h HNF.out)⟩ rfl _ HRC5.out).mono ?_
      rintro e w6 ⟨rfl, hb6⟩
      have HB6 : Hid (Below w1.heap.size w1 w6) := bel_on (Nat.le_refl _) HB5.out hb6
      have HRC6 : Hid (I.RdR w6 qc (lpJ i tt)) := HRC5.out.keep hb6 (Nat.le_refl _)
      have HW6 : Hid (Below w0.heap.size w0 w6) := bel_on (Nat.le_refl _) HW1.out HB6.out
      have HCO6 : Hid (D.CodeOk w6 w6.heap.size a0 len0) := code_mono (D.code_below HCO.out HW6.out) HW6.out.size
      clear hb6 HB5 HRC5 HB6
      go_wp2_with fail
      refine (I.drawForward a0 len0 cap0 _ HCO6.out).mono ?_
      rintro e w7 ⟨q7, n7, c7, y7, rfl, hl7, hn7, hr7, hb7⟩
      have HL7 : Hid (y7.length = n7) := hl7
      have HR7 : Hid (I.RdR w7 q7 y7) := hr7
      have HRC7 : Hid (I.RdR w7 qc (lpJ i tt)) := HRC6.out.keep hb7 (Nat.le_refl _)
      have HW7 : Hid (Below w0.heap.size w0 w7) := bel_on (Nat.le_refl _) HW6.out hb7
      obtain ⟨b7, hB7⟩ := I.fwd_bool y7
      have HB7 : Hid (b7 = true ↔ I.FwdR y7) := hB7
      clear hl7 hr7 hb7 HRC6 HW6 HCO6 hB7
      go_wp2_with fail
      refine (I.forwardI qc (lpJ i tt) nc cc false HLC.out (by omega) ⟨(fun h => by cases h), (fun h => absurd h HNF.out)⟩ _ HRC7.out).mono ?_
      rintro e w8 ⟨rfl, hb8⟩
      have HR8 : Hid (I.RdR w8 q7 y7) := HR7.out.keep hb8 (Nat.le_refl _)
      have HW8 : Hid (Below w0.heap.size w0 w8) := bel_on (Nat.le_refl _) HW7.out hb8
      clear hb8 HR7 HW7 HRC7
      go_wp2_with fail
      refine (I.forwardI q7 y7 n7 c7 b7 HL7.out (by omega) HB7.out _ HR8.out).mono ?_
      rintro e w9 ⟨rfl, hb9⟩
      have HR9 : Hid (I.RdR w9 q7 y7) := HR8.out.keep hb9 (Nat.le_refl _)
      have HW9 : Hid (Below w0.heap.size w0 w9) := bel_on (Nat.le_refl _) HW8.out hb9
      clear hb9 HR8 HW8
      go_wp2_with fail
      refine (I.forwardS q7 y7 n7 c7 b7 HL7.out (by omega) HB7.out _ HR9.out).mono ?_
      rintro e wz ⟨rfl, hbz⟩
      have HWz : Hid (Below w0.heap.size w0 wz) := bel_on (Nat.le_refl _) HW9.out hbz
      clear hbz HR9 HW9
      cases b7
      · go_wp2
        go_ret
        exact ⟨rfl, HWz.out⟩
      · go_wp2
        go_ret
        exact ⟨rfl, HWz.out⟩

theorem walk (a0 : Option Addr) (len0 cap0 : Nat) (z0 : List Int) (w : World) (w0 : D.IsRow .u8 w a0 len0 cap0 z0) :
    Calls Try.prog 5 #[.slice a0 len0 cap0] w fun e w' => e = .returned (.bool true) ∧ Below w.heap.size w w' := by
  have hlen : len0 ≤ 9223372036854775807 := by
    rcases w0 with ⟨_, h, _⟩ | ⟨x, _, h1, h2, _⟩
    · omega
    · unfold maxLen at h2; omega
  by_cases hb : len0 ≤ 1048576
  · exact loops_in a0 len0 cap0 hb w (D.code_of_row w0 hb)
  · have hb' : 1048576 < len0 := by omega
    go_enter Try.func5, Try.ntmps5
    go_wp2_with fail
    refine (D.big5 a0 len0 cap0 hlen _).mono ?_
    rintro e w1 ⟨rfl, rfl⟩
    rw [decide_eq_true (by omega)]
    go_wp2
    go_ret
    exact ⟨rfl, Below.refl _ _⟩

set_option maxRecDepth 100000 in
theorem lifted (os : Os) (started : os.Started) (H : Type) (enc : TypeId × Value → H) :
    ReturnsInHanded {} Try.checked os 5 .any (Rows.fnLoopsSpec.pre6 enc Try.prog Try.f5 Rows.fnLoopsRow.domain false) (Rows.fnLoopsSpec.post enc Try.prog Try.f5 false true false false) := by
  refine returnsInHanded_of_change (C := Try.checked) own started (by kernel_rfl) Try.func5
    (ChangeSpec.witness6 (enc := enc) (C := Try.checked) false ⟨#[], #[.slice none 0 0], []⟩ 8 (by kernel_rfl) (by kernel_rfl) (by kernel_rfl) (by kernel_rfl)) ?_
  intro W base args ds gs before hval0 hW hcnd _
  have hval : ∀ (j : Nat) t v, Try.f5.params[j]? = some t → args[j]? = some v → Value.okWide Try.prog W .any base t v := hval0
  have hW' := hW
  obtain ⟨p, q, hA0, hV, rfl, hfz, hnd⟩ := hW
  have hA : DataW.TrodAll enc Try.prog W 0 (fun _ => true) true Try.f5.params.toList args.toList ds p := hA0
  rw [Try.params5] at hA hval
  obtain ⟨v0, vs0, d0, ds0, p0, q0, hargs, rfl, rfl, h0, r0⟩ := trodAll_cons hA
  obtain ⟨rfl, rfl, rfl⟩ := trodAll_nil r0
  obtain rfl : args = #[v0] := by cases args; simp_all
  obtain ⟨rfl, rfl⟩ := trodVars_none hV
  have k0 := h0
  have lt0 : ∀ x ∈ p0, x.block < W.heap.size := by obtain ⟨m, hm⟩ := k0; exact DataW.trod_lt m _ _ _ hm
  obtain ⟨a0, len0, cap0, z0, rfl, w0⟩ := D.open_code (hval 0 41 v0 rfl rfl) h0
  clear hA0 hval0
  refine (walk a0 len0 cap0 z0 W w0).mono fun e W' ⟨he, bel⟩ => ?_
  subst he
  exact ⟨_, rfl, _, _, _, [], _, [], hW', trodAll_mk1 (shut_bool Try.underlying4 _), (trodAll_cons_mk (Below.trod laidOut (by kernel_rfl) (of_decide_eq_true (by kernel_rfl)) k0 bel lt0) trodAll_mk0), rfl, bel.frame _, fun h => by cases h⟩

theorem over : Rows.fnLoopsRow.holds Try.pinned (OpenSpec.ofChange Rows.fnLoopsSpec) :=
  OpenClaim.holds_of_wide 5 Try.f5 rfl rfl rfl rfl rfl rfl rfl ⟨rfl, rfl, rfl, rfl, rfl⟩ rfl rfl rfl rfl rfl (by kernel_rfl) Try.func5 (by kernel_rfl)
    (of_decide_eq_true (by kernel_rfl)) (by unfold Func.isWrapper; first | (rw [if_pos (by decide +kernel)]; kernel_rfl) | (rw [if_neg (by decide +kernel)]; exact ⟨rfl, rfl⟩))
    (fun os started H enc _ => lifted os started H enc)

end Go.Proofs.Ythnocibkgpofnaa.fnLoops
namespace Go.Proofs.Ythnocibkgpofnaa
theorem fnLoops_holds : Rows.FnLoopsSaid :=
  fnLoops.over
#print axioms fnLoops_holds
end Go.Proofs.Ythnocibkgpofnaa
