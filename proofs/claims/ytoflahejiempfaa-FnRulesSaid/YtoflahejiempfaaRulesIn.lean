/-
  FnRules' walk.
-/
import Derived.Test.YtoflahejiempfaaDrawA10
import Derived.Test.YtoflahejiempfaaActI
import Derived.Test.YtoflahejiempfaaActS
namespace Go.Proofs.Ytoflahejiempfaa
open Go.RowKit Go.PlainAid
set_option linter.unusedVariables false

theorem one_right {p f : Int} (hp : 1 ≤ p ∧ p ≤ 4) (hf : 1 ≤ f ∧ f ≤ 2) : RulesR [(p, f, 2)] := by
  rw [rulesR_iff]
  refine ⟨fun i h => ?_, fun i h hi k hk => ?_, by simp⟩
  · simp at h
    subst h
    exact ⟨hp, hf, ⟨by show (0 : Int) ≤ 2; omega, by show (2 : Int) ≤ 4; omega⟩, fun h' => by have h5 : (2 : Int) = 0 := h'.2; omega⟩
  · simp at h
    omega
theorem one_wf {p f : Int} (hp : 1 ≤ p ∧ p ≤ 4) (hf : 1 ≤ f ∧ f ≤ 2) : WfU [(p, f, 2)] :=
  SmU.wf (fun r hr => by
    simp at hr
    subst hr
    exact ⟨⟨by show 0 ≤ p; omega, by show p ≤ 9; omega⟩, ⟨by show 0 ≤ f; omega, by show f ≤ 9; omega⟩, ⟨by show (0 : Int) ≤ 2; omega, by show (2 : Int) ≤ 9; omega⟩⟩)
theorem one_act (p f s : Int) : actR [(p, f, 2)] p f s = if 3 ≤ s then 3 else 2 := by
  unfold actR
  rw [show actOf [(p, f, 2)] p f = some 2 by simp [actOf]]
  unfold actFin
  by_cases h : 3 ≤ s
  · rw [if_pos h]; exact if_pos ⟨.inr rfl, h⟩
  · rw [if_neg h]; exact if_neg (fun h' => h h'.2)
theorem one_rd {w : World} {g : Nat} {p f t : Int} {T : TypeId} (h : w.heap[g]? = some (.cells #[.int .i64 p, .int .i64 f, .int .i64 t] T)) : RdU w (some ⟨g, 0, none⟩) [(p, f, t)] := fun _ => by
  refine ⟨g, 0, rfl, fun j hj => ?_⟩
  simp at hj
  subst hj
  have := row3_cells h
  exact this.1
theorem rd_none (w : World) (a : Option Addr) : RdU w a [] := fun h => by simp at h
theorem act_high (l : List Rule) (p f s : Int) (h : 3 ≤ s) : (actR l p f s == 1) = false ∧ (actR l p f s == 2) = false := by
  unfold actR actFin
  by_cases hx : ((actOf l p f).getD (actBase f) = 1 ∨ (actOf l p f).getD (actBase f) = 2) ∧ 3 ≤ s
  · rw [if_pos hx]; exact ⟨rfl, rfl⟩
  · rw [if_neg hx]
    have h1 : ¬ (actOf l p f).getD (actBase f) = 1 := fun e => hx ⟨.inl e, h⟩
    have h2 : ¬ (actOf l p f).getD (actBase f) = 2 := fun e => hx ⟨.inr e, h⟩
    exact ⟨by simpa using h1, by simpa using h2⟩

set_option maxRecDepth 100000 in
set_option maxHeartbeats 4000000 in
theorem rulesIn (a0 : Option Addr) (len0 cap0 : Nat) (hb : len0 ≤ 1048576) (w0 : World) (hcode : CodeOk w0 w0.heap.size a0 len0) :
    Calls Try.prog 3 #[.slice a0 len0 cap0] w0 fun e w' => e = .returned (.bool true) ∧ Below w0.heap.size w0 w' := by
  have HC : Hid (CodeOk w0 w0.heap.size a0 len0) := hcode
  clear hcode
  go_enter Try.func3, Try.ntmps3
  go_wp2_with fail
  refine (big5 a0 len0 cap0 (by omega) _).mono ?_
  rintro e wx ⟨rfl, hwx⟩
  have hwy := hwx.symm
  subst hwy
  clear hwx
  rw [decide_eq_false (by omega)]
  go_wp2_with fail
  refine (drawAct a0 len0 cap0 _ HC.out).mono ?_
  rintro e w1 ⟨q, n, c, l, p, f, s, rfl, hl, hn, hS, hrd, hp, hf, hs, hb1⟩
  have HL : Hid (l.length = n) := hl
  have HW : Hid (WfU l) := hS.wf
  have HB1 : Hid (Below w0.heap.size w0 w1) := hb1
  have HR1 : Hid (RdU w1 q l) := hrd
  have HP : Hid ((1 ≤ p ∧ p ≤ 4) ∧ (1 ≤ f ∧ f ≤ 2)) := ⟨hp, hf⟩
  have HPW : Hid (wfI p ∧ wfI f) := ⟨wf_small ⟨by omega, by omega⟩, wf_small ⟨by omega, by omega⟩⟩
  have hn2 : n ≤ 1048576 := by omega
  clear hl hn hS hrd hp hf hs hb1 HC
  go_wp2_with fail
  refine (actI q l n c p f s HL.out hn2 HW.out HPW.out.1 HPW.out.2 _ HR1.out).mono ?_
  rintro e w2 ⟨rfl, hb2⟩
  have HB2 : Hid (Below w0.heap.size w0 w2) := bel_on (Nat.le_refl _) HB1.out hb2
  have HR2 : Hid (RdU w2 q l) := HR1.out.on hb2
  clear hb2 HB1 HR1
  obtain ⟨x, hx⟩ : ∃ x, actR l p f s = x := ⟨_, rfl⟩
  rw [hx]
  have HX : Hid (actR l p f s = x) := hx
  clear hx
  go_wp2_with fail
  refine (actS q l n c p f s HL.out hn2 _ HR2.out).mono ?_
  rintro e w3 ⟨rfl, hb3⟩
  have HB3 : Hid (Below w0.heap.size w0 w3) := bel_on (Nat.le_refl _) HB2.out hb3
  have HR3 : Hid (RdU w3 q l) := HR2.out.on hb3
  clear hb3 HB2 HR2
  rw [HX.out]
  have hxx : (x != x) = false := by simp
  obtain ⟨b, hB⟩ := rules_bool l
  have HPB : Hid (b = true ↔ RulesR l) := hB
  clear hB
  go_wp2_with fail
  clear hxx
  refine (rulesI q l n c b HL.out hn2 HW.out HPB.out _ HR3.out).mono ?_
  rintro e w4 ⟨rfl, hb4⟩
  have HB4 : Hid (Below w0.heap.size w0 w4) := bel_on (Nat.le_refl _) HB3.out hb4
  have HR4 : Hid (RdU w4 q l) := HR3.out.on hb4
  clear hb4 HB3 HR3
  go_wp2_with fail
  refine (rulesS q l n c b HL.out hn2 HPB.out _ HR4.out).mono ?_
  rintro e w5 ⟨rfl, hb5⟩
  have HB5 : Hid (Below w0.heap.size w0 w5) := bel_on (Nat.le_refl _) HB4.out hb5
  clear hb5 HB4 HR4 HPB HW HL
  have hbb : (b != b) = false := by simp
  have HK : Hid (3 ≤ s → (x == 1) = false ∧ (x == 2) = false) := fun h => by rw [← HX.out]; exact act_high l p f s h
  have HB6 : Hid (Below w0.heap.size w0 (w5.alloc (.cells #[.int .i64 p, .int .i64 f, .int .i64 2] 30))) := HB5.out.alloc HB5.out.size _
  have HO6 : Hid ((w5.alloc (.cells #[.int .i64 p, .int .i64 f, .int .i64 2] 30)).heap[w5.heap.size]? = some (.cells #[.int .i64 p, .int .i64 f, .int .i64 2] 30)) := heap_new w5 _
  have HRR : Hid (RulesR [(p, f, 2)]) := one_right HP.out.1 HP.out.2
  have HRW : Hid (WfU [(p, f, 2)]) := one_wf HP.out.1 HP.out.2
  have HE1 : Hid (actR [(p, f, 2)] p f 0 = 2) := one_act p f 0
  have HE2 : Hid (actR [(p, f, 2)] p f 3 = 3) := one_act p f 3
  have HE3 : Hid (actR [] p 1 0 = 3) := rfl
  have HE4 : Hid (actR [] p 2 0 = 0) := rfl
  clear HX HB5 HP
  by_cases h3 : 3 ≤ s
  · obtain ⟨k1, k2⟩ := HK.out h3
    clear HK
    go_wp2_with fail
    clear hbb k1 k2 h3
    refine (rulesI (some ⟨w5.heap.size, 0, none⟩) [(p, f, 2)] 1 1 true rfl (by omega) HRW.out ⟨(fun _ => HRR.out), (fun _ => rfl)⟩ _ (one_rd HO6.out)).mono ?_
    rintro e w7 ⟨rfl, hb7⟩
    have HB7 : Hid (Below w0.heap.size w0 w7) := bel_on (Nat.le_refl _) HB6.out hb7
    have HO7 : Hid (w7.heap[w5.heap.size]? = some (.cells #[.int .i64 p, .int .i64 f, .int .i64 2] 30)) := row_on HO6.out hb7
    clear hb7 HB6 HO6
    go_wp2_with fail
    refine (actI (some ⟨w5.heap.size, 0, none⟩) [(p, f, 2)] 1 1 p f 0 rfl (by omega) HRW.out HPW.out.1 HPW.out.2 _ (one_rd HO7.out)).mono ?_
    rintro e w8 ⟨rfl, hb8⟩
    have HB8 : Hid (Below w0.heap.size w0 w8) := bel_on (Nat.le_refl _) HB7.out hb8
    have HO8 : Hid (w8.heap[w5.heap.size]? = some (.cells #[.int .i64 p, .int .i64 f, .int .i64 2] 30)) := row_on HO7.out hb8
    clear hb8 HB7 HO7
    rw [HE1.out]
    go_wp2_with fail
    refine (actI (some ⟨w5.heap.size, 0, none⟩) [(p, f, 2)] 1 1 p f 3 rfl (by omega) HRW.out HPW.out.1 HPW.out.2 _ (one_rd HO8.out)).mono ?_
    rintro e w9 ⟨rfl, hb9⟩
    have HB9 : Hid (Below w0.heap.size w0 (w9.alloc (.cells #[] 30))) := (bel_on (Nat.le_refl _) HB8.out hb9).alloc (bel_on (Nat.le_refl _) HB8.out hb9).size _
    clear hb9 HB8 HO8
    rw [HE2.out]
    go_wp2_with fail
    refine (actI (some ⟨w9.heap.size, 0, none⟩) [] 0 0 p 1 0 rfl (by omega) (fun j h => by simp at h) HPW.out.1 (wf_small ⟨by omega, by omega⟩) _ (rd_none _ _)).mono ?_
    rintro e w10 ⟨rfl, hb10⟩
    have HB10 : Hid (Below w0.heap.size w0 (w10.alloc (.cells #[] 30))) := (bel_on (Nat.le_refl _) HB9.out hb10).alloc (bel_on (Nat.le_refl _) HB9.out hb10).size _
    clear hb10 HB9
    rw [HE3.out]
    go_wp2_with fail
    refine (actI (some ⟨w10.heap.size, 0, none⟩) [] 0 0 p 2 0 rfl (by omega) (fun j h => by simp at h) HPW.out.1 (wf_small ⟨by omega, by omega⟩) _ (rd_none _ _)).mono ?_
    rintro e w11 ⟨rfl, hb11⟩
    have HB11 : Hid (Below w0.heap.size w0 w11) := bel_on (Nat.le_refl _) HB10.out hb11
    clear hb11 HB10
    rw [HE4.out]
    go_wp2
    go_ret
    exact ⟨rfl, HB11.out⟩
  · clear HK
    go_wp2_with fail
    clear hbb h3
    refine (rulesI (some ⟨w5.heap.size, 0, none⟩) [(p, f, 2)] 1 1 true rfl (by omega) HRW.out ⟨(fun _ => HRR.out), (fun _ => rfl)⟩ _ (one_rd HO6.out)).mono ?_
    rintro e w7 ⟨rfl, hb7⟩
    have HB7 : Hid (Below w0.heap.size w0 w7) := bel_on (Nat.le_refl _) HB6.out hb7
    have HO7 : Hid (w7.heap[w5.heap.size]? = some (.cells #[.int .i64 p, .int .i64 f, .int .i64 2] 30)) := row_on HO6.out hb7
    clear hb7 HB6 HO6
    go_wp2_with fail
    refine (actI (some ⟨w5.heap.size, 0, none⟩) [(p, f, 2)] 1 1 p f 0 rfl (by omega) HRW.out HPW.out.1 HPW.out.2 _ (one_rd HO7.out)).mono ?_
    rintro e w8 ⟨rfl, hb8⟩
    have HB8 : Hid (Below w0.heap.size w0 w8) := bel_on (Nat.le_refl _) HB7.out hb8
    have HO8 : Hid (w8.heap[w5.heap.size]? = some (.cells #[.int .i64 p, .int .i64 f, .int .i64 2] 30)) := row_on HO7.out hb8
    clear hb8 HB7 HO7
    rw [HE1.out]
    go_wp2_with fail
    refine (actI (some ⟨w5.heap.size, 0, none⟩) [(p, f, 2)] 1 1 p f 3 rfl (by omega) HRW.out HPW.out.1 HPW.out.2 _ (one_rd HO8.out)).mono ?_
    rintro e w9 ⟨rfl, hb9⟩
    have HB9 : Hid (Below w0.heap.size w0 (w9.alloc (.cells #[] 30))) := (bel_on (Nat.le_refl _) HB8.out hb9).alloc (bel_on (Nat.le_refl _) HB8.out hb9).size _
    clear hb9 HB8 HO8
    rw [HE2.out]
    go_wp2_with fail
    refine (actI (some ⟨w9.heap.size, 0, none⟩) [] 0 0 p 1 0 rfl (by omega) (fun j h => by simp at h) HPW.out.1 (wf_small ⟨by omega, by omega⟩) _ (rd_none _ _)).mono ?_
    rintro e w10 ⟨rfl, hb10⟩
    have HB10 : Hid (Below w0.heap.size w0 (w10.alloc (.cells #[] 30))) := (bel_on (Nat.le_refl _) HB9.out hb10).alloc (bel_on (Nat.le_refl _) HB9.out hb10).size _
    clear hb10 HB9
    rw [HE3.out]
    go_wp2_with fail
    refine (actI (some ⟨w10.heap.size, 0, none⟩) [] 0 0 p 2 0 rfl (by omega) (fun j h => by simp at h) HPW.out.1 (wf_small ⟨by omega, by omega⟩) _ (rd_none _ _)).mono ?_
    rintro e w11 ⟨rfl, hb11⟩
    have HB11 : Hid (Below w0.heap.size w0 w11) := bel_on (Nat.le_refl _) HB10.out hb11
    clear hb11 HB10
    rw [HE4.out]
    go_wp2
    go_ret
    exact ⟨rfl, HB11.out⟩
end Go.Proofs.Ytoflahejiempfaa
