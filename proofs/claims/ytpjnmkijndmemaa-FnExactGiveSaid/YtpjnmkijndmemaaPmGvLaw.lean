/-
  Proved: for every pump and int the call of FnExactGive returns true: Give of the program answers as that of the specification, and the arguments read as before. No conditions.
-/
import Derived.Test.YtpjnmkijndmemaaRows
import Derived.Test.YtpjnmkijndmemaaOpenPm
import Derived.Test.YtpjnmkijndmemaaPmI
import Derived.OpenShut
import Derived.ShutString
import Derived.ChangeOld
import Derived.Below
import Derived.OpenVars
import Derived.Deep.DeepHandedRow
namespace Go.Proofs.Ytpjnmkijndmemaa.fnExactGive
open Go.ChangeShapes Go.WideShapes Go.ChangeAt Go.RowKit Go.PlainAid
open Go.ChangeMaps (open_string shut_string)
set_option linter.unusedVariables false

theorem own : ownKnob Try.prog.godebug = none := by kernel_rfl
theorem laidOut : laidOutB Try.prog = true := by kernel_rfl

set_option maxRecDepth 100000 in
set_option maxHeartbeats 8000000 in
theorem walk (p : Pm) (a : Int) (w : World) (_ : (Lit.int .i64 a).wf = true) :
    Calls Try.prog 12 #[p.V, .int .i64 a] w fun e w' => e = .returned (.bool true) ∧ Below w.heap.size w w' := by
  obtain ⟨q, hq⟩ : ∃ q, p.give a = q := ⟨_, rfl⟩
  have KS0 : Hid (∀ w, Calls Try.prog 20 #[p.V, .int .i64 a] w fun e w' => e = .returned q.V ∧ Below w.heap.size w w') := fun w => by rw [← hq]; exact giveS p a w
  have KI0 : Hid (∀ w, Calls Try.prog 19 #[p.V, .int .i64 a] w fun e w' => e = .returned q.V ∧ Below w.heap.size w w') := fun w => by rw [← hq]; exact giveI p a w
  have KE0 : Hid (∀ w, Calls Try.prog 26 #[q.V, q.V] w fun e w' => e = .returned (.bool true) ∧ Below w.heap.size w w') := fun w => eqPmp q w
  clear hq
  obtain ⟨s, n, d, r, l, b, g, k⟩ := p
  obtain ⟨s', n', d', r', l', b', g', k'⟩ := q
  have KS : Hid (∀ w, Calls Try.prog 20 #[.agg #[.int .i64 s, .int .i64 n, .int .i64 d, .int .i64 r, .int .i64 l, .int .i64 b, .int .i64 g, .int .i64 k], .int .i64 a] w fun e w' => e = .returned (.agg #[.int .i64 s', .int .i64 n', .int .i64 d', .int .i64 r', .int .i64 l', .int .i64 b', .int .i64 g', .int .i64 k']) ∧ Below w.heap.size w w') := KS0
  have KI : Hid (∀ w, Calls Try.prog 19 #[.agg #[.int .i64 s, .int .i64 n, .int .i64 d, .int .i64 r, .int .i64 l, .int .i64 b, .int .i64 g, .int .i64 k], .int .i64 a] w fun e w' => e = .returned (.agg #[.int .i64 s', .int .i64 n', .int .i64 d', .int .i64 r', .int .i64 l', .int .i64 b', .int .i64 g', .int .i64 k']) ∧ Below w.heap.size w w') := KI0
  have KE : Hid (∀ w, Calls Try.prog 26 #[.agg #[.int .i64 s', .int .i64 n', .int .i64 d', .int .i64 r', .int .i64 l', .int .i64 b', .int .i64 g', .int .i64 k'], .agg #[.int .i64 s', .int .i64 n', .int .i64 d', .int .i64 r', .int .i64 l', .int .i64 b', .int .i64 g', .int .i64 k']] w fun e w' => e = .returned (.bool true) ∧ Below w.heap.size w w') := KE0
  clear KS0 KI0 KE0
  have HB0 : Hid (Below w.heap.size w (w.alloc (.cells #[.int .i64 s, .int .i64 n, .int .i64 d, .int .i64 r, .int .i64 l, .int .i64 b, .int .i64 g, .int .i64 k] 45))) := alP _ _
  have HL0 : Hid ((w.alloc (.cells #[.int .i64 s, .int .i64 n, .int .i64 d, .int .i64 r, .int .i64 l, .int .i64 b, .int .i64 g, .int .i64 k] 45)).heap[w.heap.size]? = some (.cells #[.int .i64 s, .int .i64 n, .int .i64 d, .int .i64 r, .int .i64 l, .int .i64 b, .int .i64 g, .int .i64 k] 45)) := heap_new w _
  have q0 := box8_cells HL0.out
  have KT : Hid (∀ w, Calls Try.prog 28 #[.agg #[.int .i64 s, .int .i64 n, .int .i64 d, .int .i64 r, .int .i64 l, .int .i64 b, .int .i64 g, .int .i64 k]] w fun e w' => e = .returned (.agg #[.int .i64 s, .int .i64 n, .int .i64 d, .int .i64 r, .int .i64 l, .int .i64 b, .int .i64 g, .int .i64 k]) ∧ Below w.heap.size w w') := fun w => toPmp ⟨s, n, d, r, l, b, g, k⟩ w
  show Calls Try.prog 12 #[.agg #[.int .i64 s, .int .i64 n, .int .i64 d, .int .i64 r, .int .i64 l, .int .i64 b, .int .i64 g, .int .i64 k], .int .i64 a] w fun e w' => e = .returned (.bool true) ∧ Below w.heap.size w w'
  go_enter Try.func12, Try.ntmps12
  go_wp2_with fail
  refine Calls.mono (KT.out _) ?_
  rintro e w1 ⟨rfl, hb1⟩
  have HB1 : Hid (Below w.heap.size w w1) := bel_on (Nat.le_refl _) HB0.out hb1
  have HL1 : Hid (w1.heap[w.heap.size]? = some (.cells #[.int .i64 s, .int .i64 n, .int .i64 d, .int .i64 r, .int .i64 l, .int .i64 b, .int .i64 g, .int .i64 k] 45)) := row_on HL0.out hb1
  have q1 := box8_cells HL1.out
  clear hb1 HB0 HL0 q0
  go_wp2_with fail
  refine Calls.mono (KS.out _) ?_
  rintro e w2 ⟨rfl, hb2⟩
  have HB2 : Hid (Below w.heap.size w w2) := bel_on (Nat.le_refl _) HB1.out hb2
  have HL2 : Hid (w2.heap[w.heap.size]? = some (.cells #[.int .i64 s, .int .i64 n, .int .i64 d, .int .i64 r, .int .i64 l, .int .i64 b, .int .i64 g, .int .i64 k] 45)) := row_on HL1.out hb2
  have q2 := box8_cells HL2.out
  clear hb2 HB1 HL1 q1
  have HNa : Hid ((w2.alloc (.cells #[.int .i64 0, .int .i64 0, .int .i64 0, .int .i64 0, .int .i64 0, .int .i64 0, .int .i64 0, .int .i64 0] 27)).heap[w2.heap.size]? = some (.cells #[.int .i64 0, .int .i64 0, .int .i64 0, .int .i64 0, .int .i64 0, .int .i64 0, .int .i64 0, .int .i64 0] 27)) := heap_new w2 _
  have HBa : Hid (Below w.heap.size w (w2.alloc (.cells #[.int .i64 0, .int .i64 0, .int .i64 0, .int .i64 0, .int .i64 0, .int .i64 0, .int .i64 0, .int .i64 0] 27))) := bel_on (Nat.le_refl _) HB2.out (alP _ _)
  have hle : w.heap.size ≤ w2.heap.size := HB2.out.size
  have HLa : Hid ((w2.alloc (.cells #[.int .i64 0, .int .i64 0, .int .i64 0, .int .i64 0, .int .i64 0, .int .i64 0, .int .i64 0, .int .i64 0] 27)).heap[w.heap.size]? = some (.cells #[.int .i64 s, .int .i64 n, .int .i64 d, .int .i64 r, .int .i64 l, .int .i64 b, .int .i64 g, .int .i64 k] 45)) := row_on HL2.out (alP _ _)
  have lHL : w.heap.size < w2.heap.size := row_lt HL2.out
  go_wp2_with (refine listStoreP rfl rfl _ _ _ rfl rfl w2.heap.size (s') (n') (d') (r') (l') (b') (g') (k') rfl rfl HNa.out ?_)
  intro w3 hr ho hs hB
  have HB3 : Hid (Below w.heap.size w w3) := hB _ _ hle HBa.out
  have HL3 : Hid (w3.heap[w.heap.size]? = some (.cells #[.int .i64 s, .int .i64 n, .int .i64 d, .int .i64 r, .int .i64 l, .int .i64 b, .int .i64 g, .int .i64 k] 45)) := (ho _ (by omega)).trans HLa.out
  obtain ⟨A, hA⟩ : ∃ A, w2.heap.size = A := ⟨_, rfl⟩
  rw [hA] at hr
  have HA3 : Hid (w3.heap[A]? = some (.cells #[.int .i64 s', .int .i64 n', .int .i64 d', .int .i64 r', .int .i64 l', .int .i64 b', .int .i64 g', .int .i64 k'] 27)) := hr
  rw [hA]
  have q3 := box8_cells HL3.out
  clear hr ho hs hB hA HNa HBa HLa lHL hle HB2 HL2 q2
  go_wp2_with fail
  refine Calls.mono (KT.out _) ?_
  rintro e w4 ⟨rfl, hb4⟩
  have HB4 : Hid (Below w.heap.size w w4) := bel_on (Nat.le_refl _) HB3.out hb4
  have HA4 : Hid (w4.heap[A]? = some (.cells #[.int .i64 s', .int .i64 n', .int .i64 d', .int .i64 r', .int .i64 l', .int .i64 b', .int .i64 g', .int .i64 k'] 27)) := row_on HA3.out hb4
  clear hb4 HB3 HL3 HA3 q3 KT
  go_wp2_with fail
  refine Calls.mono (KI.out _) ?_
  rintro e w5 ⟨rfl, hb5⟩
  have HB5 : Hid (Below w.heap.size w w5) := bel_on (Nat.le_refl _) HB4.out hb5
  have HA5 : Hid (w5.heap[A]? = some (.cells #[.int .i64 s', .int .i64 n', .int .i64 d', .int .i64 r', .int .i64 l', .int .i64 b', .int .i64 g', .int .i64 k'] 27)) := row_on HA4.out hb5
  clear hb5 HB4 HA4 KI KS
  have HNa : Hid ((w5.alloc (.cells #[.int .i64 0, .int .i64 0, .int .i64 0, .int .i64 0, .int .i64 0, .int .i64 0, .int .i64 0, .int .i64 0] 27)).heap[w5.heap.size]? = some (.cells #[.int .i64 0, .int .i64 0, .int .i64 0, .int .i64 0, .int .i64 0, .int .i64 0, .int .i64 0, .int .i64 0] 27)) := heap_new w5 _
  have HBa : Hid (Below w.heap.size w (w5.alloc (.cells #[.int .i64 0, .int .i64 0, .int .i64 0, .int .i64 0, .int .i64 0, .int .i64 0, .int .i64 0, .int .i64 0] 27))) := bel_on (Nat.le_refl _) HB5.out (alP _ _)
  have hle : w.heap.size ≤ w5.heap.size := HB5.out.size
  have HAa : Hid ((w5.alloc (.cells #[.int .i64 0, .int .i64 0, .int .i64 0, .int .i64 0, .int .i64 0, .int .i64 0, .int .i64 0, .int .i64 0] 27)).heap[A]? = some (.cells #[.int .i64 s', .int .i64 n', .int .i64 d', .int .i64 r', .int .i64 l', .int .i64 b', .int .i64 g', .int .i64 k'] 27)) := row_on HA5.out (alP _ _)
  have lHA : A < w5.heap.size := row_lt HA5.out
  go_wp2_with (refine listStoreP rfl rfl _ _ _ rfl rfl w5.heap.size (s') (n') (d') (r') (l') (b') (g') (k') rfl rfl HNa.out ?_)
  intro w6 hr ho hs hB
  have HB6 : Hid (Below w.heap.size w w6) := hB _ _ hle HBa.out
  have HA6 : Hid (w6.heap[A]? = some (.cells #[.int .i64 s', .int .i64 n', .int .i64 d', .int .i64 r', .int .i64 l', .int .i64 b', .int .i64 g', .int .i64 k'] 27)) := (ho _ (by omega)).trans HAa.out
  obtain ⟨A2, hA2⟩ : ∃ A2, w5.heap.size = A2 := ⟨_, rfl⟩
  rw [hA2] at hr
  have HC6 : Hid (w6.heap[A2]? = some (.cells #[.int .i64 s', .int .i64 n', .int .i64 d', .int .i64 r', .int .i64 l', .int .i64 b', .int .i64 g', .int .i64 k'] 27)) := hr
  rw [hA2]
  have q6 := box8_cells HA6.out
  have r6 := box8_cells HC6.out
  clear hr ho hs hB hA2 HNa HBa HAa lHA hle HB5 HA5
  go_wp2_with fail
  refine Calls.mono (KE.out _) ?_
  rintro e w7 ⟨rfl, hb7⟩
  have HB7 : Hid (Below w.heap.size w w7) := bel_on (Nat.le_refl _) HB6.out hb7
  clear hb7 HB6 HA6 HC6 q6 r6 KE
  go_wp2
  go_ret
  exact ⟨by simp, HB7.out⟩

set_option maxRecDepth 100000 in
theorem lifted (os : Os) (started : os.Started) (H : Type) (enc : TypeId × Value → H) :
    ReturnsInHanded {} Try.checked os 12 .any (Rows.fnExactGiveSpec.pre6 enc Try.prog Try.f12 Rows.fnExactGiveRow.domain false) (Rows.fnExactGiveSpec.post enc Try.prog Try.f12 false true false false) := by
  refine returnsInHanded_of_change (C := Try.checked) own started (by kernel_rfl) Try.func12
    (ChangeSpec.witness6 (enc := enc) (C := Try.checked) false ⟨#[], #[.agg #[.int .i64 0, .int .i64 0, .int .i64 0, .int .i64 0, .int .i64 0, .int .i64 0, .int .i64 0, .int .i64 0], .int .i64 0], []⟩ 8 (by kernel_rfl) (by kernel_rfl) (by kernel_rfl) (by kernel_rfl)) ?_
  intro W base args ds gs before hval0 hW hcnd _
  have hval : ∀ (j : Nat) t v, Try.f12.params[j]? = some t → args[j]? = some v → Value.okWide Try.prog W .any base t v := hval0
  have hW' := hW
  obtain ⟨p, q, hA0, hV, rfl, hfz, hnd⟩ := hW
  have hA : DataW.TrodAll enc Try.prog W 0 (fun _ => true) true Try.f12.params.toList args.toList ds p := hA0
  rw [Try.params12] at hA hval
  obtain ⟨v0, vs0, d0, ds0, p0, q0, hargs, rfl, rfl, h0, r0⟩ := trodAll_cons hA
  obtain ⟨v1, vs1, d1, ds1, p1, q1, rfl, rfl, rfl, h1, r1⟩ := trodAll_cons r0
  obtain ⟨rfl, rfl, rfl⟩ := trodAll_nil r1
  obtain rfl : args = #[v0, v1] := by cases args; simp_all
  obtain ⟨rfl, rfl⟩ := trodVars_none hV
  have k0 := h0
  have lt0 : ∀ x ∈ p0, x.block < W.heap.size := by obtain ⟨m, hm⟩ := k0; exact DataW.trod_lt m _ _ _ hm
  obtain ⟨p0m, rfl⟩ := open_pump (hval 0 45 v0 rfl rfl) h0
  obtain ⟨a1, rfl, rfl, rfl, w1⟩ := open_int Try.underlying3 (hval 1 3 v1 rfl rfl) h1
  clear hA0 hval0
  refine (walk p0m a1 W w1).mono fun e W' ⟨he, bel⟩ => ?_
  subst he
  exact ⟨_, rfl, _, _, _, [], _, [], hW', trodAll_mk1 (shut_bool Try.underlying4 _), (trodAll_cons_mk (Below.trod laidOut (by kernel_rfl) (of_decide_eq_true (by kernel_rfl)) k0 bel lt0) (trodAll_cons_mk (shut_int Try.underlying3 w1) trodAll_mk0)), rfl, bel.frame _, fun h => by cases h⟩

theorem over : Rows.fnExactGiveRow.holds Try.pinned (OpenSpec.ofChange Rows.fnExactGiveSpec) :=
  OpenClaim.holds_of_wide 12 Try.f12 rfl rfl rfl rfl rfl rfl rfl ⟨rfl, rfl, rfl, rfl, rfl⟩ rfl rfl rfl rfl rfl (by kernel_rfl) Try.func12 (by kernel_rfl)
    (of_decide_eq_true (by kernel_rfl)) (by unfold Func.isWrapper; first | (rw [if_pos (by decide +kernel)]; kernel_rfl) | (rw [if_neg (by decide +kernel)]; exact ⟨rfl, rfl⟩))
    (fun os started H enc _ => lifted os started H enc)

end Go.Proofs.Ytpjnmkijndmemaa.fnExactGive
namespace Go.Proofs.Ytpjnmkijndmemaa
theorem fnExactGive_holds : Rows.FnExactGiveSaid :=
  fnExactGive.over
#print axioms fnExactGive_holds
end Go.Proofs.Ytpjnmkijndmemaa
