/-
  Proved: for every list of ticks the call of FnExactStopsOnAlarm returns true: StopsOnAlarm of the program answers as its model and writes into no argument.
-/
import Derived.Test.YtfdhcchakoldpaaRows
import Derived.Test.YtfdhcchakoldpaaStopI
import Derived.Test.YtfdhcchakoldpaaStopS
import Derived.Test.YtfdhcchakoldpaaOpenY
import Derived.OpenShut
import Derived.ShutString
import Derived.ChangeOld
import Derived.Below
import Derived.OpenVars
import Derived.Deep.DeepHandedRow
namespace Go.Proofs.Ytfdhcchakoldpaa.fnExactStopsOnAlarm
open Go.ChangeShapes Go.WideShapes Go.ChangeAt Go.RowKit Go.PlainAid
open Go.ChangeMaps (open_string shut_string)
set_option linter.unusedVariables false

theorem own : ownKnob Try.prog.godebug = none := by kernel_rfl
theorem laidOut : laidOutB Try.prog = true := by kernel_rfl

set_option maxRecDepth 100000 in
set_option maxHeartbeats 4000000 in
theorem walk (a : Option Addr) (n cap : Nat) (l : List Tk3) (w : World) (hl : l.length = n) (hnm : n ≤ 9223372036854775807) (hr : RdY w a l) :
    Calls Try.prog 4 #[.slice a n cap] w fun e w' => e = .returned (.bool true) ∧ Below w.heap.size w w' := by
  have HL : Hid (l.length = n) := hl
  have HR : Hid (RdY w a l) := hr
  clear hl hr
  go_enter Try.func4, Try.ntmps4
  go_wp2_with fail
  refine (szY a n cap 1048576 (by omega) (by omega) hnm _).mono ?_
  by_cases hs : (n : Int) ≤ 1048576
  · rw [if_pos hs]
    rintro e w1 ⟨rfl, rfl⟩
    have hn : n ≤ 1048576 := by omega
    have q0 : ¬ (1048576 : Int) - (n : Int) < 0 := by omega
    obtain ⟨B, hB⟩ : ∃ B, l.all stopT = B := ⟨_, rfl⟩
    have HB : Hid (l.all stopT = B) := hB
    clear hB
    go_wp2_with fail
    refine (toYs a l n cap HL.out hn _ HR.out).mono ?_
    rintro e w2 ⟨rfl, hrow2, hb2⟩
    have HB2 : Hid (Below w1.heap.size w1 w2) := hb2
    have HR2 : Hid (RdY w2 (some ⟨w1.heap.size, 0, none⟩) l) := hrow2.rd
    clear hb2 hrow2
    go_wp2_with fail
    refine (stopsS _ l n n HL.out hn _ HR2.out).mono ?_
    rw [HB.out]
    rintro e w3 ⟨rfl, hb3⟩
    have HB3 : Hid (Below w1.heap.size w1 w3) := bel_on (Nat.le_refl _) HB2.out hb3
    clear hb3 HB2 HR2
    go_wp2_with fail
    refine (toYs a l n cap HL.out hn _ (HR.out.on HB3.out)).mono ?_
    rintro e w4 ⟨rfl, hrow4, hb4⟩
    have HB4 : Hid (Below w1.heap.size w1 w4) := bel_on (Nat.le_refl _) HB3.out hb4
    obtain ⟨g4, hg4⟩ : ∃ g, w3.heap.size = g := ⟨_, rfl⟩
    rw [hg4] at hrow4 ⊢
    have HR4 : Hid (RowY w4 g4 l) := hrow4
    clear hb4 hrow4 HB3 hg4
    go_wp2_with fail
    refine (stopsI _ l n n HL.out hn _ HR4.out.rd).mono ?_
    rw [HB.out]
    rintro e w5 ⟨rfl, hb5⟩
    have HB5 : Hid (Below w1.heap.size w1 w5) := bel_on (Nat.le_refl _) HB4.out hb5
    have HR5 : Hid (RowY w5 g4 l) := HR4.out.on hb5
    clear hb5 HB4 HR4
    have hbb : (B != B) = false := by simp
    go_wp2_with fail
    refine (toYs a l n cap HL.out hn _ (HR.out.on HB5.out)).mono ?_
    rintro e w6 ⟨rfl, hrow6, hb6⟩
    have HB6 : Hid (Below w1.heap.size w1 w6) := bel_on (Nat.le_refl _) HB5.out hb6
    have HR6 : Hid (RowY w6 g4 l) := HR5.out.on hb6
    obtain ⟨g6, hg6⟩ : ∃ g, w5.heap.size = g := ⟨_, rfl⟩
    rw [hg6] at hrow6 ⊢
    have HS6 : Hid (RowY w6 g6 l) := hrow6
    clear hb6 hrow6 HB5 HR5 hg6
    go_wp2_with fail
    refine (eqYs _ _ l n n n HL.out hn _ HR6.out.rd HS6.out.rd).mono ?_
    rintro e w7 ⟨rfl, hb7⟩
    have HB7 : Hid (Below w1.heap.size w1 w7) := bel_on (Nat.le_refl _) HB6.out hb7
    clear hb7 HB6 HR6 HS6
    go_wp2
    go_ret
    exact ⟨rfl, HB7.out⟩
  · rw [if_neg hs]
    rintro e w1 ⟨rfl, rfl⟩
    go_wp2
    go_ret
    exact ⟨rfl, Below.refl _ _⟩

set_option maxRecDepth 100000 in
theorem lifted (os : Os) (started : os.Started) (H : Type) (enc : TypeId × Value → H) :
    ReturnsInHanded {} Try.checked os 4 .any (Rows.fnExactStopsOnAlarmSpec.pre6 enc Try.prog Try.f4 Rows.fnExactStopsOnAlarmRow.domain false) (Rows.fnExactStopsOnAlarmSpec.post enc Try.prog Try.f4 false true false false) := by
  refine returnsInHanded_of_change (C := Try.checked) own started (by kernel_rfl) Try.func4
    (ChangeSpec.witness6 (enc := enc) (C := Try.checked) false ⟨#[], #[.slice none 0 0], []⟩ 8 (by kernel_rfl) (by kernel_rfl) (by kernel_rfl) (by kernel_rfl)) ?_
  intro W base args ds gs before hval0 hW hcnd _
  have hval : ∀ (j : Nat) t v, Try.f4.params[j]? = some t → args[j]? = some v → Value.okWide Try.prog W .any base t v := hval0
  have hW' := hW
  obtain ⟨p, q, hA0, hV, rfl, hfz, hnd⟩ := hW
  have hA : DataW.TrodAll enc Try.prog W 0 (fun _ => true) true Try.f4.params.toList args.toList ds p := hA0
  rw [Try.params4] at hA hval
  obtain ⟨v0, vs0, d0, ds0, p0, q0, hargs, rfl, rfl, h0, r0⟩ := trodAll_cons hA
  obtain ⟨rfl, rfl, rfl⟩ := trodAll_nil r0
  obtain rfl : args = #[v0] := by cases args; simp_all
  obtain ⟨rfl, rfl⟩ := trodVars_none hV
  have k0 := h0
  have lt0 : ∀ x ∈ p0, x.block < W.heap.size := by obtain ⟨m, hm⟩ := k0; exact DataW.trod_lt m _ _ _ hm
  obtain ⟨a0, len0, cap0, z0, rfl, wl0, wc0, wm0, wr0, _⟩ := openY_v (hval 0 46 v0 rfl rfl) h0
  clear hA0 hval0
  refine (walk a0 len0 cap0 z0 W wl0 wm0 wr0).mono fun e W' ⟨he, bel⟩ => ?_
  subst he
  exact ⟨_, rfl, _, _, _, [], _, [], hW', trodAll_mk1 (shut_bool Try.underlying4 _), (trodAll_cons_mk (Below.trod laidOut (by kernel_rfl) (of_decide_eq_true (by kernel_rfl)) k0 bel lt0) trodAll_mk0), rfl, bel.frame _, fun h => by cases h⟩

theorem over : Rows.fnExactStopsOnAlarmRow.holds Try.pinned (OpenSpec.ofChange Rows.fnExactStopsOnAlarmSpec) :=
  OpenClaim.holds_of_wide 4 Try.f4 rfl rfl rfl rfl rfl rfl rfl ⟨rfl, rfl, rfl, rfl, rfl⟩ rfl rfl rfl rfl rfl (by kernel_rfl) Try.func4 (by kernel_rfl)
    (of_decide_eq_true (by kernel_rfl)) (by unfold Func.isWrapper; first | (rw [if_pos (by decide +kernel)]; kernel_rfl) | (rw [if_neg (by decide +kernel)]; exact ⟨rfl, rfl⟩))
    (fun os started H enc _ => lifted os started H enc)

end Go.Proofs.Ytfdhcchakoldpaa.fnExactStopsOnAlarm
namespace Go.Proofs.Ytfdhcchakoldpaa
theorem fnExactStopsOnAlarm_holds : Rows.FnExactStopsOnAlarmSaid :=
  fnExactStopsOnAlarm.over
#print axioms fnExactStopsOnAlarm_holds
end Go.Proofs.Ytfdhcchakoldpaa
