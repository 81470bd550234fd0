/-
  A struct of five lists stored into a block: the world behind it as a letter.
-/
import Derived.Test.YtadbekhekggpkaaGreatDoorReadN
import Derived.Test.YtadbekhekggpkaaGreatDoorTextS
import Derived.Deep.DeepCutAuto
import Derived.Deep.CutBlock
namespace Go.Proofs.YtadbekhekggpkaaGreatDoor
open Go.RowKit Go.PlainAid
set_option linter.unusedVariables false
set_option linter.unusedSimpArgs false

theorem tl_inj {a b : ByteArray} (h : a.toList = b.toList) : a = b := by
  rw [ByteArray.toList_eq, ByteArray.toList_eq] at h
  cases a; cases b
  congr 1
  exact Array.toList_inj.1 h
theorem tl_yes {a b : ByteArray} (h : a = b) : (a.toList == b.toList) = true := by
  subst h
  exact beq_self_eq_true _
theorem tl_no {a b : ByteArray} (h : a ≠ b) : (a.toList == b.toList) = false := by
  cases e : (a.toList == b.toList)
  · rfl
  · exact absurd (tl_inj (eq_of_beq e)) h
theorem store5_run {w : World} (g : Nat) {u0 u1 u2 u3 u4 : Value} {T : TypeId} (q0 q1 q2 q3 q4 : Option Addr) (n0 n1 n2 n3 n4 c0 c1 c2 c3 c4 : Nat) (hg : w.heap[g]? = some (.cells #[u0, u1, u2, u3, u4] T)) :
    (Instr.storeAt 30 (.pointer (some ⟨g, 0, none⟩)) (.agg #[.slice q0 n0 c0, .slice q1 n1 c1, .slice q2 n2 c2, .slice q3 n3 c3, .slice q4 n4 c4])).run Tryz.prog w = .ok () (((((w.setCell ⟨g, 0, none⟩ (.slice q0 n0 c0)).setCell ⟨g, 1, none⟩ (.slice q1 n1 c1)).setCell ⟨g, 2, none⟩ (.slice q2 n2 c2)).setCell ⟨g, 3, none⟩ (.slice q3 n3 c3)).setCell ⟨g, 4, none⟩ (.slice q4 n4 c4)) := by
  have kz := boxO_cells hg
  simp [go_sem, Instr.storeAt, kz]
theorem listStore5 {ops : Array Oper} {rest : List Oper} {o : Oper} {a : Act} {Q : Exit → Act → World → Prop} {w : World} (hgd : o.guard = none) (hd : o.dst = none) (x y : Operand) (ty : TypeId) (ho : o.op = .store ty x y) (hty : ty = 30)
    (g : Nat) (q0 q1 q2 q3 q4 : Option Addr) (n0 n1 n2 n3 n4 c0 c1 c2 c3 c4 : Nat) (hx : a.eval x = .pointer (some ⟨g, 0, none⟩)) (hy : a.eval y = .agg #[.slice q0 n0 c0, .slice q1 n1 c1, .slice q2 n2 c2, .slice q3 n3 c3, .slice q4 n4 c4])
    {u0 u1 u2 u3 u4 : Value} {T : TypeId} (hg : w.heap[g]? = some (.cells #[u0, u1, u2, u3, u4] T))
    (h : ∀ w', w' = (((((w.setCell ⟨g, 0, none⟩ (.slice q0 n0 c0)).setCell ⟨g, 1, none⟩ (.slice q1 n1 c1)).setCell ⟨g, 2, none⟩ (.slice q2 n2 c2)).setCell ⟨g, 3, none⟩ (.slice q3 n3 c3)).setCell ⟨g, 4, none⟩ (.slice q4 n4 c4)) → w'.heap[g]? = some (.cells #[.slice q0 n0 c0, .slice q1 n1 c1, .slice q2 n2 c2, .slice q3 n3 c3, .slice q4 n4 c4] T) → wpList Tryz.prog ops Q rest a w') : wpList Tryz.prog ops Q (o :: rest) a w := by
  subst hty
  refine wpList_plain hgd fun _ hK => ?_
  unfold Oper.wp
  simp only [execOp, ho, hx, hy, Sem.run_bind, store5_run g q0 q1 q2 q3 q4 n0 n1 n2 n3 n4 c0 c1 c2 c3 c4 hg, Result.andThen, Sem.run_pure]
  exact hK _ _ (by rw [hd]; exact h _ rfl (set_row5 (set_row5 (set_row5 (set_row5 (set_row5 hg 0 _) 1 _) 2 _) 3 _) 4 _))
end Go.Proofs.YtadbekhekggpkaaGreatDoor

namespace Go.Proofs.YtadbekhekggpkaaGreatDoor
open Go.RowKit Go.PlainAid
set_option linter.unusedVariables false
set_option linter.unusedSimpArgs false

theorem rs_start (w : World) (t : ByteArray) : RS w (((w.alloc (.cells #[.slice none 0 0, .slice none 0 0, .slice none 0 0, .slice none 0 0, .slice none 0 0] 30)).alloc (.cells #[.string t, .int .i64 0, .bool false] 74)).alloc (.cells #[.slice none 0 0, .slice none 0 0, .slice none 0 0, .slice none 0 0, .slice none 0 0] 30)) t 0 false ⟨none, 0, 0, none, 0, 0, none, 0, 0, none, 0, 0, none, 0, 0⟩ ⟨[], [], [], [], []⟩ := by
  have e1 : (w.alloc (.cells #[.slice none 0 0, .slice none 0 0, .slice none 0 0, .slice none 0 0, .slice none 0 0] 30)).heap.size = w.heap.size + 1 := by simp
  have e2 : ((w.alloc (.cells #[.slice none 0 0, .slice none 0 0, .slice none 0 0, .slice none 0 0, .slice none 0 0] 30)).alloc (.cells #[.string t, .int .i64 0, .bool false] 74)).heap.size = w.heap.size + 1 + 1 := by simp
  have h1 := heap_new (w.alloc (.cells #[.slice none 0 0, .slice none 0 0, .slice none 0 0, .slice none 0 0, .slice none 0 0] 30)) (.cells #[.string t, .int .i64 0, .bool false] 74)
  have h2 := heap_new ((w.alloc (.cells #[.slice none 0 0, .slice none 0 0, .slice none 0 0, .slice none 0 0, .slice none 0 0] 30)).alloc (.cells #[.string t, .int .i64 0, .bool false] 74)) (.cells #[.slice none 0 0, .slice none 0 0, .slice none 0 0, .slice none 0 0, .slice none 0 0] 30)
  rw [e1] at h1
  rw [e2] at h2
  exact ⟨(((Below.refl _ _).alloc (Nat.le_refl _) _).alloc (by simp) _).alloc (by simp; omega) _, row_on (row_on (heap_new w _) ((Below.refl _ _).alloc (Nat.le_refl _) _)) ((Below.refl _ _).alloc (Nat.le_refl _) _), row_on h1 ((Below.refl _ _).alloc (Nat.le_refl _) _), h2,
    ⟨World.ownsRow_nil _ _ _ _, World.ownsRow_nil _ _ _ _, World.ownsRow_nil _ _ _ _, World.ownsRow_nil _ _ _ _, World.ownsRow_nil _ _ _ _⟩⟩
/-- what ReadSetup answers -/
def ReadR (t : ByteArray) (w : World) (W : World) (s : SH) (ok : Bool) : Prop :=
  (∃ Y, RightX Y ∧ txt Y = t ∧ ok = true ∧ OwnX W w.heap.size s Y) ∨ ((∀ Y, RightX Y → txt Y ≠ t) ∧ ok = false ∧ s = ⟨none, 0, 0, none, 0, 0, none, 0, 0, none, 0, 0, none, 0, 0⟩)

set_option maxRecDepth 100000 in
set_option maxHeartbeats 16000000 in
theorem readS (t : ByteArray) (ht : t.size ≤ 1048576) (w : World) :
    Calls Tryz.prog 12 #[.string t] w fun e w' => ∃ (s : SH) (ok : Bool), e = .returned (.tuple #[SetV s, .bool ok]) ∧ ReadR t w w' s ok ∧ Below w.heap.size w w' := by
  have HR0 : Hid (RS w (((w.alloc (.cells #[.slice none 0 0, .slice none 0 0, .slice none 0 0, .slice none 0 0, .slice none 0 0] 30)).alloc (.cells #[.string t, .int .i64 0, .bool false] 74)).alloc (.cells #[.slice none 0 0, .slice none 0 0, .slice none 0 0, .slice none 0 0, .slice none 0 0] 30)) t 0 false ⟨none, 0, 0, none, 0, 0, none, 0, 0, none, 0, 0, none, 0, 0⟩ ⟨[], [], [], [], []⟩) := rs_start w t
  have HSM : Hid (SmR ⟨none, 0, 0, none, 0, 0, none, 0, 0, none, 0, 0, none, 0, 0⟩ ⟨[], [], [], [], []⟩) := ⟨by decide, by decide, by decide, by decide, by decide, by simp [S.bytesS], fun j h => by simp at h⟩
  unfold SetV
  go_enter Tryz.func12, Tryz.ntmps12
  go_wp2_with fail
  refine (varC (w.heap.size + 1) t 0 false ht (by omega) _ HR0.out.c).mono ?_
  rintro e w1 ⟨nv0, a, b, rfl, hs, hc, hg⟩
  obtain ⟨f0, g0, ha⟩ := hs.num (by omega)
  have HR : Hid (RS w w1 t a b ⟨none, 0, 0, none, 0, 0, none, 0, 0, none, 0, 0, none, 0, 0⟩ ⟨[], [], [], [], []⟩) := HR0.out.read hc hg
  have HF : Hid (∀ Y, RightX Y → txt Y = t → nv0 = (Y.R.length : Int) ∧ (⟨[], [], [], [], []⟩ : SX) = ⟨Y.R.take 0, [], [], [], []⟩ ∧ b = false ∧ a = (vX Y.R.length ++ pT (Y.R.take 0)).size) := fun Y hY hT => by
    have hle := hY.num.r.1
    obtain ⟨k1, k2, k3⟩ := sum_step hT hs rfl (p := (⟨#[]⟩ : ByteArray)) rfl (cnt0 Y) (by omega) (by omega)
    refine ⟨k1, by simp only [List.take_zero], k2, ?_⟩
    rw [k3]
    simp only [List.take_zero, pT, ba_nil, ba_nil']
  clear hs hc hg HR0
  go_wp2
  go_loopg [7] 50 (fun gk iv wr => ∃ (j a : Nat) (b : Bool) (s : SH) (X : SX), j + gk = 50 ∧ iv = .int .i64 j ∧ s.n0 = j ∧ a ≤ t.size ∧ Hid (RS w wr t a b s X) ∧ Hid (∀ Y, RightX Y → txt Y = t → nv0 = (Y.R.length : Int) ∧ X = ⟨Y.R.take j, [], [], [], []⟩ ∧ b = false ∧ a = (vX Y.R.length ++ pT (Y.R.take j)).size) ∧ Hid (SmR s X) ∧ s.n1 = 0 ∧ s.n2 = 0 ∧ s.n3 = 0 ∧ s.n4 = 0)
  case atStart => exact ⟨0, _, _, _, _, by omega, rfl, rfl, ha, HR, HF, HSM, rfl, rfl, rfl, rfl⟩
  case round =>
    clear HR HF HSM ha
    try clear hz1
    try clear hz2
    try clear hz3
    try clear hz4
    obtain ⟨j, a, b, s, X, hj, rfl, hsn, ha, HR, HF, HSM, hz1, hz2, hz3, hz4⟩ := hrel
    obtain ⟨q0, n0, c0, q1, n1, c1, q2, n2, c2, q3, n3, c3, q4, n4, c4⟩ := s
    dsimp only at hsn hz1 hz2 hz3 hz4
    subst hsn
    have kc := row3_cells HR.out.c
    obtain ⟨cb, hcb⟩ := prop_bool ((n0 : Int) < nv0 ∧ n0 < 50 ∧ b = false)
    have HCB : Hid (cb = true ↔ ((n0 : Int) < nv0 ∧ n0 < 50 ∧ b = false)) := hcb
    have HCT : Hid ((n0 : Int) < nv0 → n0 < 50 → b = false → cb = true) := fun h1 h2 h3 => hcb.2 ⟨h1, h2, h3⟩
    have HCF : Hid (¬ ((n0 : Int) < nv0 ∧ n0 < 50 ∧ b = false) → cb = false) := fun h => by
      cases cb
      · rfl
      · exact absurd (hcb.1 rfl) h
    clear hcb
    go_upto_region 5 with fail
    go_cut [37] (fun v wc => v = .bool cb ∧ wc = wr)
    case first =>
      by_cases h1 : (n0 : Int) < nv0
      · by_cases h2 : n0 < 50
        · have h2' : (n0 : Int) < 50 := by omega
          cases b
          · have HE := HCT.out h1 h2 (by first | rfl | trivial)
            subst HE
            go_wp2
            go_meet
            exact ⟨rfl, rfl⟩
          · have HE := HCF.out (fun h => by have := h.2.2; cases this)
            subst HE
            go_wp2
            go_meet
            exact ⟨rfl, rfl⟩
        · have h2' : ¬ (n0 : Int) < 50 := by omega
          have HE := HCF.out (fun h => h2 h.2.1)
          subst HE
          go_wp2
          go_meet
          exact ⟨rfl, rfl⟩
      · have HE := HCF.out (fun h => h1 h.1)
        subst HE
        go_wp2
        go_meet
        exact ⟨rfl, rfl⟩
    case rest =>
    obtain ⟨rfl, hwc⟩ := hcut
    subst hwc
    clear HCT HCF
    cases cb
    · skip
      have HFx : Hid (∀ Y, RightX Y → txt Y = t → X = ⟨Y.R, [], [], [], []⟩ ∧ b = false ∧ a = (vX Y.R.length ++ pT Y.R).size) := fun Y hY hT => by
        obtain ⟨e1, e2, e3, e4⟩ := HF.out Y hY hT
        have hle := hY.num.r.1
        have hge : Y.R.length ≤ n0 := by
          rcases Nat.lt_or_ge n0 Y.R.length with h | h
          · have := HCB.out.2 ⟨by omega, by omega, e3⟩
            cases this
          · exact h
        rw [List.take_of_length_le hge] at e2 e4
        exact ⟨e2, e3, e4⟩
      clear HF HCB
      go_wp2_with fail
      refine (varC (w.heap.size + 1) t a b ht ha _ HR.out.c).mono ?_
      rintro e w1 ⟨nv1, a', b', rfl, hs, hc, hg⟩
      obtain ⟨f0, g0, ha'⟩ := hs.num ha
      have HR' : Hid (RS w w1 t a' b' ⟨q0, n0, c0, q1, n1, c1, q2, n2, c2, q3, n3, c3, q4, n4, c4⟩ X) := HR.out.read hc hg
      have HF' : Hid (∀ Y, RightX Y → txt Y = t → nv1 = (Y.W.length : Int) ∧ X = ⟨Y.R, Y.W.take 0, [], [], []⟩ ∧ b' = false ∧ a' = (tA Y ++ vX Y.W.length ++ pT (Y.W.take 0)).size) := fun Y hY hT => by
        obtain ⟨e2, e3, e4⟩ := HFx.out Y hY hT
        have hle := hY.num.w.1
        obtain ⟨k1, k2, k3⟩ := sum_step hT hs e3 (p := tA Y) e4 (cnt1 Y) (by omega) (by omega)
        refine ⟨k1, e2, k2, ?_⟩
        rw [k3]
        simp only [List.take_zero, pT, ba_nil]
      clear hs hc hg HR HFx kc ha hj
      have HR := HR'
      have HF := HF'
      have ha := ha'
      clear HR' HF' ha'
      go_wp2
      go_loopg [9] 50 (fun gk iv wr => ∃ (j a : Nat) (b : Bool) (s : SH) (X : SX), j + gk = 50 ∧ iv = .int .i64 j ∧ s.n1 = j ∧ a ≤ t.size ∧ Hid (RS w wr t a b s X) ∧ Hid (∀ Y, RightX Y → txt Y = t → nv1 = (Y.W.length : Int) ∧ X = ⟨Y.R, Y.W.take j, [], [], []⟩ ∧ b = false ∧ a = (tA Y ++ vX Y.W.length ++ pT (Y.W.take j)).size) ∧ Hid (SmR s X) ∧ s.n2 = 0 ∧ s.n3 = 0 ∧ s.n4 = 0)
      case atStart => exact ⟨0, _, _, _, _, by omega, rfl, hz1, ha, HR, HF, HSM, hz2, hz3, hz4⟩
      case round =>
        clear HR HF HSM ha
        try clear hz1
        try clear hz2
        try clear hz3
        try clear hz4
        obtain ⟨j, a, b, s, X, hj, rfl, hsn, ha, HR, HF, HSM, hz2, hz3, hz4⟩ := hrel
        obtain ⟨q0, n0, c0, q1, n1, c1, q2, n2, c2, q3, n3, c3, q4, n4, c4⟩ := s
        dsimp only at hsn hz2 hz3 hz4
        subst hsn
        have kc := row3_cells HR.out.c
        obtain ⟨cb, hcb⟩ := prop_bool ((n1 : Int) < nv1 ∧ n1 < 50 ∧ b = false)
        have HCB : Hid (cb = true ↔ ((n1 : Int) < nv1 ∧ n1 < 50 ∧ b = false)) := hcb
        have HCT : Hid ((n1 : Int) < nv1 → n1 < 50 → b = false → cb = true) := fun h1 h2 h3 => hcb.2 ⟨h1, h2, h3⟩
        have HCF : Hid (¬ ((n1 : Int) < nv1 ∧ n1 < 50 ∧ b = false) → cb = false) := fun h => by
          cases cb
          · rfl
          · exact absurd (hcb.1 rfl) h
        clear hcb
        go_upto_region 12 with fail
        go_cut [67] (fun v wc => v = .bool cb ∧ wc = wr)
        case first =>
          by_cases h1 : (n1 : Int) < nv1
          · by_cases h2 : n1 < 50
            · have h2' : (n1 : Int) < 50 := by omega
              cases b
              · have HE := HCT.out h1 h2 (by first | rfl | trivial)
                subst HE
                go_wp2
                go_meet
                exact ⟨rfl, rfl⟩
              · have HE := HCF.out (fun h => by have := h.2.2; cases this)
                subst HE
                go_wp2
                go_meet
                exact ⟨rfl, rfl⟩
            · have h2' : ¬ (n1 : Int) < 50 := by omega
              have HE := HCF.out (fun h => h2 h.2.1)
              subst HE
              go_wp2
              go_meet
              exact ⟨rfl, rfl⟩
          · have HE := HCF.out (fun h => h1 h.1)
            subst HE
            go_wp2
            go_meet
            exact ⟨rfl, rfl⟩
        case rest =>
        obtain ⟨rfl, hwc⟩ := hcut
        subst hwc
        clear HCT HCF
        cases cb
        · skip
          have HFx : Hid (∀ Y, RightX Y → txt Y = t → X = ⟨Y.R, Y.W, [], [], []⟩ ∧ b = false ∧ a = (tA Y ++ vX Y.W.length ++ pT Y.W).size) := fun Y hY hT => by
            obtain ⟨e1, e2, e3, e4⟩ := HF.out Y hY hT
            have hle := hY.num.w.1
            have hge : Y.W.length ≤ n1 := by
              rcases Nat.lt_or_ge n1 Y.W.length with h | h
              · have := HCB.out.2 ⟨by omega, by omega, e3⟩
                cases this
              · exact h
            rw [List.take_of_length_le hge] at e2 e4
            exact ⟨e2, e3, e4⟩
          clear HF HCB
          go_wp2_with fail
          refine (varC (w.heap.size + 1) t a b ht ha _ HR.out.c).mono ?_
          rintro e w1 ⟨nv2, a', b', rfl, hs, hc, hg⟩
          obtain ⟨f0, g0, ha'⟩ := hs.num ha
          have HR' : Hid (RS w w1 t a' b' ⟨q0, n0, c0, q1, n1, c1, q2, n2, c2, q3, n3, c3, q4, n4, c4⟩ X) := HR.out.read hc hg
          have HF' : Hid (∀ Y, RightX Y → txt Y = t → nv2 = (Y.O.length : Int) ∧ X = ⟨Y.R, Y.W, Y.O.take 0, [], []⟩ ∧ b' = false ∧ a' = (tB Y ++ vX Y.O.length ++ oT (Y.O.take 0)).size) := fun Y hY hT => by
            obtain ⟨e2, e3, e4⟩ := HFx.out Y hY hT
            have hle := hY.num.o.1
            obtain ⟨k1, k2, k3⟩ := sum_step hT hs e3 (p := tB Y) e4 (cnt2 Y) (by omega) (by omega)
            refine ⟨k1, e2, k2, ?_⟩
            rw [k3]
            simp only [List.take_zero, oT, ba_nil]
          clear hs hc hg HR HFx kc ha hj
          have HR := HR'
          have HF := HF'
          have ha := ha'
          clear HR' HF' ha'
          go_wp2
          go_loopg [11] 50 (fun gk iv wr => ∃ (j a : Nat) (b : Bool) (s : SH) (X : SX), j + gk = 50 ∧ iv = .int .i64 j ∧ s.n2 = j ∧ a ≤ t.size ∧ Hid (RS w wr t a b s X) ∧ Hid (∀ Y, RightX Y → txt Y = t → nv2 = (Y.O.length : Int) ∧ X = ⟨Y.R, Y.W, Y.O.take j, [], []⟩ ∧ b = false ∧ a = (tB Y ++ vX Y.O.length ++ oT (Y.O.take j)).size) ∧ Hid (SmR s X) ∧ s.n3 = 0 ∧ s.n4 = 0)
          case atStart => exact ⟨0, _, _, _, _, by omega, rfl, hz2, ha, HR, HF, HSM, hz3, hz4⟩
          case round =>
            clear HR HF HSM ha
            try clear hz1
            try clear hz2
            try clear hz3
            try clear hz4
            obtain ⟨j, a, b, s, X, hj, rfl, hsn, ha, HR, HF, HSM, hz3, hz4⟩ := hrel
            obtain ⟨q0, n0, c0, q1, n1, c1, q2, n2, c2, q3, n3, c3, q4, n4, c4⟩ := s
            dsimp only at hsn hz3 hz4
            subst hsn
            have kc := row3_cells HR.out.c
            obtain ⟨cb, hcb⟩ := prop_bool ((n2 : Int) < nv2 ∧ n2 < 50 ∧ b = false)
            have HCB : Hid (cb = true ↔ ((n2 : Int) < nv2 ∧ n2 < 50 ∧ b = false)) := hcb
            have HCT : Hid ((n2 : Int) < nv2 → n2 < 50 → b = false → cb = true) := fun h1 h2 h3 => hcb.2 ⟨h1, h2, h3⟩
            have HCF : Hid (¬ ((n2 : Int) < nv2 ∧ n2 < 50 ∧ b = false) → cb = false) := fun h => by
              cases cb
              · rfl
              · exact absurd (hcb.1 rfl) h
            clear hcb
            go_upto_region 19 with fail
            go_cut [97] (fun v wc => v = .bool cb ∧ wc = wr)
            case first =>
              by_cases h1 : (n2 : Int) < nv2
              · by_cases h2 : n2 < 50
                · have h2' : (n2 : Int) < 50 := by omega
                  cases b
                  · have HE := HCT.out h1 h2 (by first | rfl | trivial)
                    subst HE
                    go_wp2
                    go_meet
                    exact ⟨rfl, rfl⟩
                  · have HE := HCF.out (fun h => by have := h.2.2; cases this)
                    subst HE
                    go_wp2
                    go_meet
                    exact ⟨rfl, rfl⟩
                · have h2' : ¬ (n2 : Int) < 50 := by omega
                  have HE := HCF.out (fun h => h2 h.2.1)
                  subst HE
                  go_wp2
                  go_meet
                  exact ⟨rfl, rfl⟩
              · have HE := HCF.out (fun h => h1 h.1)
                subst HE
                go_wp2
                go_meet
                exact ⟨rfl, rfl⟩
            case rest =>
            obtain ⟨rfl, hwc⟩ := hcut
            subst hwc
            clear HCT HCF
            cases cb
            · skip
              have HFx : Hid (∀ Y, RightX Y → txt Y = t → X = ⟨Y.R, Y.W, Y.O, [], []⟩ ∧ b = false ∧ a = (tB Y ++ vX Y.O.length ++ oT Y.O).size) := fun Y hY hT => by
                obtain ⟨e1, e2, e3, e4⟩ := HF.out Y hY hT
                have hle := hY.num.o.1
                have hge : Y.O.length ≤ n2 := by
                  rcases Nat.lt_or_ge n2 Y.O.length with h | h
                  · have := HCB.out.2 ⟨by omega, by omega, e3⟩
                    cases this
                  · exact h
                rw [List.take_of_length_le hge] at e2 e4
                exact ⟨e2, e3, e4⟩
              clear HF HCB
              go_wp2_with fail
              refine (varC (w.heap.size + 1) t a b ht ha _ HR.out.c).mono ?_
              rintro e w1 ⟨nv3, a', b', rfl, hs, hc, hg⟩
              obtain ⟨f0, g0, ha'⟩ := hs.num ha
              have HR' : Hid (RS w w1 t a' b' ⟨q0, n0, c0, q1, n1, c1, q2, n2, c2, q3, n3, c3, q4, n4, c4⟩ X) := HR.out.read hc hg
              have HF' : Hid (∀ Y, RightX Y → txt Y = t → nv3 = (Y.U.length : Int) ∧ X = ⟨Y.R, Y.W, Y.O, Y.U.take 0, []⟩ ∧ b' = false ∧ a' = (tC Y ++ vX Y.U.length ++ uT (Y.U.take 0)).size) := fun Y hY hT => by
                obtain ⟨e2, e3, e4⟩ := HFx.out Y hY hT
                have hle := hY.num.u.1
                obtain ⟨k1, k2, k3⟩ := sum_step hT hs e3 (p := tC Y) e4 (cnt3 Y) (by omega) (by omega)
                refine ⟨k1, e2, k2, ?_⟩
                rw [k3]
                simp only [List.take_zero, uT, ba_nil]
              clear hs hc hg HR HFx kc ha hj
              have HR := HR'
              have HF := HF'
              have ha := ha'
              clear HR' HF' ha'
              go_wp2
              go_loopg [13] 50 (fun gk iv wr => ∃ (j a : Nat) (b : Bool) (s : SH) (X : SX), j + gk = 50 ∧ iv = .int .i64 j ∧ s.n3 = j ∧ a ≤ t.size ∧ Hid (RS w wr t a b s X) ∧ Hid (∀ Y, RightX Y → txt Y = t → nv3 = (Y.U.length : Int) ∧ X = ⟨Y.R, Y.W, Y.O, Y.U.take j, []⟩ ∧ b = false ∧ a = (tC Y ++ vX Y.U.length ++ uT (Y.U.take j)).size) ∧ Hid (SmR s X) ∧ s.n4 = 0)
              case atStart => exact ⟨0, _, _, _, _, by omega, rfl, hz3, ha, HR, HF, HSM, hz4⟩
              case round =>
                clear HR HF HSM ha
                try clear hz1
                try clear hz2
                try clear hz3
                try clear hz4
                obtain ⟨j, a, b, s, X, hj, rfl, hsn, ha, HR, HF, HSM, hz4⟩ := hrel
                obtain ⟨q0, n0, c0, q1, n1, c1, q2, n2, c2, q3, n3, c3, q4, n4, c4⟩ := s
                dsimp only at hsn hz4
                subst hsn
                have kc := row3_cells HR.out.c
                obtain ⟨cb, hcb⟩ := prop_bool ((n3 : Int) < nv3 ∧ n3 < 50 ∧ b = false)
                have HCB : Hid (cb = true ↔ ((n3 : Int) < nv3 ∧ n3 < 50 ∧ b = false)) := hcb
                have HCT : Hid ((n3 : Int) < nv3 → n3 < 50 → b = false → cb = true) := fun h1 h2 h3 => hcb.2 ⟨h1, h2, h3⟩
                have HCF : Hid (¬ ((n3 : Int) < nv3 ∧ n3 < 50 ∧ b = false) → cb = false) := fun h => by
                  cases cb
                  · rfl
                  · exact absurd (hcb.1 rfl) h
                clear hcb
                go_upto_region 29 with fail
                go_cut [136] (fun v wc => v = .bool cb ∧ wc = wr)
                case first =>
                  by_cases h1 : (n3 : Int) < nv3
                  · by_cases h2 : n3 < 50
                    · have h2' : (n3 : Int) < 50 := by omega
                      cases b
                      · have HE := HCT.out h1 h2 (by first | rfl | trivial)
                        subst HE
                        go_wp2
                        go_meet
                        exact ⟨rfl, rfl⟩
                      · have HE := HCF.out (fun h => by have := h.2.2; cases this)
                        subst HE
                        go_wp2
                        go_meet
                        exact ⟨rfl, rfl⟩
                    · have h2' : ¬ (n3 : Int) < 50 := by omega
                      have HE := HCF.out (fun h => h2 h.2.1)
                      subst HE
                      go_wp2
                      go_meet
                      exact ⟨rfl, rfl⟩
                  · have HE := HCF.out (fun h => h1 h.1)
                    subst HE
                    go_wp2
                    go_meet
                    exact ⟨rfl, rfl⟩
                case rest =>
                obtain ⟨rfl, hwc⟩ := hcut
                subst hwc
                clear HCT HCF
                cases cb
                · skip
                  have HFx : Hid (∀ Y, RightX Y → txt Y = t → X = ⟨Y.R, Y.W, Y.O, Y.U, []⟩ ∧ b = false ∧ a = (tC Y ++ vX Y.U.length ++ uT Y.U).size) := fun Y hY hT => by
                    obtain ⟨e1, e2, e3, e4⟩ := HF.out Y hY hT
                    have hle := hY.num.u.1
                    have hge : Y.U.length ≤ n3 := by
                      rcases Nat.lt_or_ge n3 Y.U.length with h | h
                      · have := HCB.out.2 ⟨by omega, by omega, e3⟩
                        cases this
                      · exact h
                    rw [List.take_of_length_le hge] at e2 e4
                    exact ⟨e2, e3, e4⟩
                  clear HF HCB
                  have HF : Hid (∀ Y, RightX Y → txt Y = t → X = ⟨Y.R, Y.W, Y.O, Y.U, Y.S.take 0⟩ ∧ b = false ∧ a = (tD Y ++ sT (Y.S.take 0)).size) := fun Y hY hT => by
                    obtain ⟨e2, e3, e4⟩ := HFx.out Y hY hT
                    refine ⟨e2, e3, ?_⟩
                    rw [e4]
                    simp only [List.take_zero, sT, ba_nil, tD]
                  have hn50 := HSM.out.n0
                  dsimp only at hn50
                  clear HFx hj
                  go_wp2
                  clear kc
                  go_loopg [15] 50 (fun gk iv wr => ∃ (j a : Nat) (b : Bool) (s : SH) (X : SX), j + gk = 50 ∧ iv = .int .i64 j ∧ s.n4 = j ∧ j ≤ s.n0 ∧ a ≤ t.size ∧ Hid (RS w wr t a b s X) ∧ Hid (∀ Y, RightX Y → txt Y = t → X = ⟨Y.R, Y.W, Y.O, Y.U, Y.S.take j⟩ ∧ b = false ∧ a = (tD Y ++ sT (Y.S.take j)).size) ∧ Hid (SmR s X))
                  case atStart => exact ⟨0, _, _, _, _, by omega, rfl, hz4, Nat.zero_le _, ha, HR, HF, HSM⟩
                  case round =>
                    clear HR HF HSM ha hn50 hz4
                    obtain ⟨j, a, b, s, X, hj, rfl, hsn, hjn, ha, HR, HF, HSM⟩ := hrel
                    obtain ⟨q0, n0, c0, q1, n1, c1, q2, n2, c2, q3, n3, c3, q4, n4, c4⟩ := s
                    dsimp only at hsn hjn
                    subst hsn
                    have hn50 := HSM.out.n0
                    dsimp only at hn50
                    have kc := row3_cells HR.out.c
                    have ks := boxO_cells HR.out.sb
                    obtain ⟨cb, hcb⟩ := prop_bool (n4 < n0 ∧ b = false)
                    have HCB : Hid (cb = true ↔ (n4 < n0 ∧ b = false)) := hcb
                    have HCT : Hid (n4 < n0 → b = false → cb = true) := fun h1 h3 => hcb.2 ⟨h1, h3⟩
                    have HCF : Hid (¬ (n4 < n0 ∧ b = false) → cb = false) := fun h => by
                      cases cb
                      · rfl
                      · exact absurd (hcb.1 rfl) h
                    clear hcb
                    go_upto_region 36 with fail
                    go_cut [165] (fun v wc => v = .bool cb ∧ wc = wr)
                    case first =>
                      by_cases h1 : n4 < n0
                      · have h1' : (n4 : Int) < (n0 : Int) := by omega
                        cases b
                        · have HE := HCT.out h1 (by first | rfl | trivial)
                          subst HE
                          go_wp2
                          go_meet
                          exact ⟨rfl, rfl⟩
                        · have HE := HCF.out (fun h => by have := h.2; cases this)
                          subst HE
                          go_wp2
                          go_meet
                          exact ⟨rfl, rfl⟩
                      · have h1' : ¬ (n4 : Int) < (n0 : Int) := by omega
                        have HE := HCF.out (fun h => h1 h.1)
                        subst HE
                        go_wp2
                        go_meet
                        exact ⟨rfl, rfl⟩
                    case rest =>
                    obtain ⟨rfl, hwc⟩ := hcut
                    subst hwc
                    clear HCT HCF
                    cases cb
                    · skip
                      have HFx : Hid (∀ Y, RightX Y → txt Y = t → X = Y ∧ b = false) := fun Y hY hT => by
                        obtain ⟨e2, e3, e4⟩ := HF.out Y hY hT
                        have hl0 := HR.out.o.rd.l0
                        dsimp only at hl0
                        rw [e2] at hl0
                        dsimp only at hl0
                        have hl4 := hY.2.2.2.2.1.1
                        have hge : Y.S.length ≤ n4 := by
                          rcases Nat.lt_or_ge n4 n0 with h | h
                          · have := HCB.out.2 ⟨h, e3⟩
                            cases this
                          · omega
                        rw [List.take_of_length_le hge] at e2
                        exact ⟨e2, e3⟩
                      obtain ⟨tv, tb, htx⟩ := text_ex X
                      have HTX : Hid (TextX X tv tb) := htx
                      clear htx HF HCB kc
                      go_wp2_with fail
                      refine (textS ⟨q0, n0, c0, q1, n1, c1, q2, n2, c2, q3, n3, c3, q4, n4, c4⟩ X tv tb HTX.out _ HR.out.o.rd HSM.out.sm HSM.out.u).mono ?_
                      rintro e w1 ⟨rfl, hb⟩
                      have HR1 : Hid (RS w w1 t a b ⟨q0, n0, c0, q1, n1, c1, q2, n2, c2, q3, n3, c3, q4, n4, c4⟩ X) := HR.out.bel hb
                      have kc1 := row3_cells HR1.out.c
                      have ks1 := boxO_cells HR1.out.sb
                      have kz1 := boxO_cells HR1.out.z
                      clear hb HR ks HSM hj hjn hn50 ha
                      cases b
                      · cases tb
                        · skip
                          have HNo : Hid (∀ Y, RightX Y → txt Y ≠ t) := fun Y hY hT => by
                            obtain ⟨e1, e2⟩ := HFx.out Y hY hT
                            rcases HTX.out with h | h
                            · have := h.2.2; cases this
                            · exact h.1 (by rw [e1]; exact hY)
                          clear HFx HTX
                          go_upto_region 41 with fail
                          clear kc1 ks1 kz1
                          go_wp2_with (refine listStore5 rfl rfl (.tmp 2) (.tmp 193) _ rfl rfl w.heap.size none none none none none 0 0 0 0 0 0 0 0 0 0 rfl rfl HR1.out.z ?_)
                          intro w2 hw2 hz2
                          have kz2 := boxO_cells hz2
                          have HW2 : Hid (Below w.heap.size w w2) := by
                            rw [hw2]
                            exact (((((HR1.out.bl.setCell (Nat.le_refl _) _).setCell (Nat.le_refl _) _).setCell (Nat.le_refl _) _).setCell (Nat.le_refl _) _).setCell (Nat.le_refl _) _)
                          clear hw2 hz2 HR1
                          go_wp2
                          refine bodyPost_ret (v := .tuple #[.agg #[.slice none 0 0, .slice none 0 0, .slice none 0 0, .slice none 0 0, .slice none 0 0], .bool false]) (by simp [results, Tryz.results12, go_sem, kz2]) rfl ⟨⟨none, 0, 0, none, 0, 0, none, 0, 0, none, 0, 0, none, 0, 0⟩, false, rfl, .inr ⟨HNo.out, rfl, rfl⟩, HW2.out⟩
                        · by_cases hq : tv = t
                          · have HOK : Hid (RightX X ∧ txt X = t) := by
                              rcases HTX.out with h | h
                              · exact ⟨h.1, h.2.1.symm.trans hq⟩
                              · have := h.2.2; cases this
                            have hq1 := tl_yes hq
                            have hne : NeX w.heap.size ⟨q0, n0, c0, q1, n1, c1, q2, n2, c2, q3, n3, c3, q4, n4, c4⟩ := ⟨own_far11 HR1.out.o.o0 HR1.out.z (by decide), own_far11 HR1.out.o.o1 HR1.out.z (by decide), own_far11 HR1.out.o.o2 HR1.out.z (by decide), own_far11 HR1.out.o.o3 HR1.out.z (by decide), own_far11 HR1.out.o.o4 HR1.out.z (by decide)⟩
                            have HNE : Hid (NeX w.heap.size ⟨q0, n0, c0, q1, n1, c1, q2, n2, c2, q3, n3, c3, q4, n4, c4⟩) := hne
                            clear HFx HTX hq hne
                            go_upto_region 42 with fail
                            clear kc1 kz1 hq1
                            go_wp2_with (refine listStore5 rfl rfl (.tmp 2) (.tmp 194) _ rfl rfl w.heap.size q0 q1 q2 q3 q4 n0 n1 n2 n3 n4 c0 c1 c2 c3 c4 rfl rfl HR1.out.z ?_)
                            intro w2 hw2 hz2
                            have kz2 := boxO_cells hz2
                            have HW2 : Hid (Below w.heap.size w w2) := by
                              rw [hw2]
                              exact (((((HR1.out.bl.setCell (Nat.le_refl _) _).setCell (Nat.le_refl _) _).setCell (Nat.le_refl _) _).setCell (Nat.le_refl _) _).setCell (Nat.le_refl _) _)
                            have HO2 : Hid (OwnX w2 w.heap.size ⟨q0, n0, c0, q1, n1, c1, q2, n2, c2, q3, n3, c3, q4, n4, c4⟩ X) := by
                              rw [hw2]
                              exact HR1.out.o.put5 HNE.out
                            clear hw2 hz2 HR1 ks1 HNE
                            go_wp2
                            refine bodyPost_ret (v := .tuple #[.agg #[.slice q0 n0 c0, .slice q1 n1 c1, .slice q2 n2 c2, .slice q3 n3 c3, .slice q4 n4 c4], .bool true]) (by simp [results, Tryz.results12, go_sem, kz2]) rfl ⟨⟨q0, n0, c0, q1, n1, c1, q2, n2, c2, q3, n3, c3, q4, n4, c4⟩, true, rfl, .inl ⟨X, HOK.out.1, HOK.out.2, rfl, HO2.out⟩, HW2.out⟩
                          · have hq1 := tl_no hq
                            have HNo : Hid (∀ Y, RightX Y → txt Y ≠ t) := fun Y hY hT => by
                              obtain ⟨e1, e2⟩ := HFx.out Y hY hT
                              rcases HTX.out with h | h
                              · exact hq (by rw [h.2.1, e1]; exact hT)
                              · have := h.2.2; cases this
                            clear HFx HTX
                            go_upto_region 41 with fail
                            clear kc1 ks1 kz1 hq hq1
                            go_wp2_with (refine listStore5 rfl rfl (.tmp 2) (.tmp 193) _ rfl rfl w.heap.size none none none none none 0 0 0 0 0 0 0 0 0 0 rfl rfl HR1.out.z ?_)
                            intro w2 hw2 hz2
                            have kz2 := boxO_cells hz2
                            have HW2 : Hid (Below w.heap.size w w2) := by
                              rw [hw2]
                              exact (((((HR1.out.bl.setCell (Nat.le_refl _) _).setCell (Nat.le_refl _) _).setCell (Nat.le_refl _) _).setCell (Nat.le_refl _) _).setCell (Nat.le_refl _) _)
                            clear hw2 hz2 HR1
                            go_wp2
                            refine bodyPost_ret (v := .tuple #[.agg #[.slice none 0 0, .slice none 0 0, .slice none 0 0, .slice none 0 0, .slice none 0 0], .bool false]) (by simp [results, Tryz.results12, go_sem, kz2]) rfl ⟨⟨none, 0, 0, none, 0, 0, none, 0, 0, none, 0, 0, none, 0, 0⟩, false, rfl, .inr ⟨HNo.out, rfl, rfl⟩, HW2.out⟩
                      · skip
                        have HNo : Hid (∀ Y, RightX Y → txt Y ≠ t) := fun Y hY hT => by
                          obtain ⟨e1, e2⟩ := HFx.out Y hY hT
                          cases e2
                        clear HFx HTX
                        go_upto_region 41 with fail
                        clear kc1 ks1 kz1
                        go_wp2_with (refine listStore5 rfl rfl (.tmp 2) (.tmp 193) _ rfl rfl w.heap.size none none none none none 0 0 0 0 0 0 0 0 0 0 rfl rfl HR1.out.z ?_)
                        intro w2 hw2 hz2
                        have kz2 := boxO_cells hz2
                        have HW2 : Hid (Below w.heap.size w w2) := by
                          rw [hw2]
                          exact (((((HR1.out.bl.setCell (Nat.le_refl _) _).setCell (Nat.le_refl _) _).setCell (Nat.le_refl _) _).setCell (Nat.le_refl _) _).setCell (Nat.le_refl _) _)
                        clear hw2 hz2 HR1
                        go_wp2
                        refine bodyPost_ret (v := .tuple #[.agg #[.slice none 0 0, .slice none 0 0, .slice none 0 0, .slice none 0 0, .slice none 0 0], .bool false]) (by simp [results, Tryz.results12, go_sem, kz2]) rfl ⟨⟨none, 0, 0, none, 0, 0, none, 0, 0, none, 0, 0, none, 0, 0⟩, false, rfl, .inr ⟨HNo.out, rfl, rfl⟩, HW2.out⟩
                    · have hcond := HCB.out.1 (by first | rfl | trivial)
                      obtain ⟨h1, h3⟩ := hcond
                      subst h3
                      clear HCB
                      obtain ⟨i0, hi, hz0, hz1', hz2'⟩ := info_parts S.info9
                      have HRd : Hid (RS w wc.drew t a false ⟨q0, n0, c0, q1, n1, c1, q2, n2, c2, q3, n3, c3, q4, n4, c4⟩ X) := HR.out.bel ((Below.refl _ _).drew)
                      have hb4 := HSM.out.b
                      have HSM4 : Hid (S.bytesS X.S ≤ 20000 * n4) := hb4
                      clear hb4 kc
                      go_wp2_with fail
                      refine wp_region_held_drew (S := fun _ => True) (by kernel_rfl) trivial (fun hHeld => ?_)
                      refine wpAnyH_take (i := 0) (v := ?_) rfl (by kernel_rfl) (by kernel_rfl) (by kernel_rfl) (fun _ _ _ h => h) (Or.inl ⟨by rfl, ?_⟩) (by assumption) ?_
                      rotate_left
                      · intro w hSw; (try dsimp only at hSw); go_simp <;> with_reducible rfl
                      try simp only [Act.put, List.setIfInBounds_toArray, List.set_cons_zero, List.set_cons_succ]
                      refine wpAnyH_take (i := 2) (v := ?_) rfl (by kernel_rfl) (by kernel_rfl) (by kernel_rfl) (fun _ _ _ h => h) (Or.inl ⟨by rfl, ?_⟩) (by assumption) ?_
                      rotate_left
                      · intro w hSw; (try dsimp only at hSw); go_simp <;> with_reducible rfl
                      try simp only [Act.put, List.setIfInBounds_toArray, List.set_cons_zero, List.set_cons_succ]
                      refine wpAnyH_ready (rs := [1, 3]) (by kernel_rfl) (by simp) ?_
                      refine AllReadyH.cons rfl (fun K hK => ?_) (AllReadyH.cons rfl (fun K hK => ?_) AllReadyH.nil)
                      · skip
                        go_simp
                        refine hK.out _ _ trivial (fun hHeld => ?_)
                        clear hK K
                        try simp only [Act.put, List.setIfInBounds_toArray, List.set_cons_zero, List.set_cons_succ]
                        refine wpAnyH_ready (rs := [3]) (by kernel_rfl) (by simp) ?_
                        refine AllReadyH.cons rfl (fun K hK => ?_) AllReadyH.nil
                        go_simp
                        go_at_call 33
                        refine (shortC (w.heap.size + 1) t a false ht ha _ HRd.out.c).mono ?_
                        rintro e w1 ⟨x0, a1, b1, rfl, hs, hc, hg⟩
                        have HR1 : Hid (RS w w1 t a1 b1 ⟨q0, n0, c0, q1, n1, c1, q2, n2, c2, q3, n3, c3, q4, n4, c4⟩ X) := HRd.out.read hc hg
                        have ks1 := boxO_cells HR1.out.sb
                        have HS1 : Hid (ShortV t a false x0 a1 b1) := hs
                        have hsz1 := HR1.out.bl.size
                        clear hs hc hg
                        go_wp2_with fail
                        refine hK.out _ _ trivial (fun hHeld => ?_)
                        clear hK K
                        try simp only [Act.put, List.setIfInBounds_toArray, List.set_cons_zero, List.set_cons_succ]
                        refine wpAnyH_ready (rs := [4]) (by kernel_rfl) (by simp) ?_
                        refine AllReadyH.cons rfl (fun K hK => ?_) AllReadyH.nil
                        go_simp
                        have ks2 := boxO_cells ((HR1.out.al (.cells #[.string x0] 9)).sb)
                        have hown4 : (w1.alloc (.cells #[.string x0] 9)).ownsRow w.heap.size 9 1 (.slice q4 n4 c4) n4 (S.strV X.S) := World.ownsRow.alloc HR1.out.o.o4 _
                        refine hK.out _ _ trivial (fun hHeld => ?_)
                        clear hK K
                        try simp only [Act.put, List.setIfInBounds_toArray, List.set_cons_zero, List.set_cons_succ]
                        refine wpAnyH_ready (rs := [5]) (by kernel_rfl) (by simp) ?_
                        refine AllReadyH.cons rfl (fun K hK => ?_) AllReadyH.nil
                        refine step_append_lies _ rfl _ _ _ rfl w.heap.size 9 i0 _ 1 16 Tryz.underlying28 hi hz0 hz1' hz2' rfl (by omega) _ _ _ rfl hown4 ⟨w1.heap.size, 0, none⟩ 1 1 [.string x0] rfl rfl (World.news_of_block (cs := #[.string x0]) (t := 9) (fr := (0, 0)) (heap_new w1 _)) (by simp [Value.oneCell']) (by omega) (by unfold maxLen; omega) (by omega) (by simp; omega) (w1.heap.size + 1) (by simp) ?_
                        intro gg cp wA hown' hgrow hat hlt1
                        have ksA := boxO_cells ((HR1.out.al _).sbg hown4 (by decide) (by decide) hgrow)
                        refine hK.out _ _ trivial (fun hHeld => ?_)
                        clear hK K
                        try simp only [Act.put, List.setIfInBounds_toArray, List.set_cons_zero, List.set_cons_succ]
                        refine wpAnyH_take (i := 6) (v := ?_) rfl (by kernel_rfl) (by kernel_rfl) (by kernel_rfl) (fun _ _ _ h => h) (Or.inl ⟨by rfl, ?_⟩) (by assumption) ?_
                        rotate_left
                        · intro w hSw; (try dsimp only at hSw); go_simp <;> with_reducible rfl
                        try simp only [Act.put, List.setIfInBounds_toArray, List.set_cons_zero, List.set_cons_succ]
                        refine wpAnyH_ready (rs := [7]) (by kernel_rfl) (by simp) ?_
                        refine AllReadyH.cons rfl (fun K hK => ?_) AllReadyH.nil
                        go_simp
                        refine hK.out _ _ trivial (fun hHeld => ?_)
                        clear hK K
                        try simp only [Act.put, List.setIfInBounds_toArray, List.set_cons_zero, List.set_cons_succ]
                        refine wpAnyH_done (by kernel_rfl) ?_ _
                        have hrow' : wA.ownsRow w.heap.size 9 1 (.slice (some ⟨gg, 0, none⟩) (n4 + 1) cp) (n4 + 1) (S.strV (X.S ++ [x0])) := by
                          unfold S.strV
                          rw [List.map_append]
                          exact hown'
                        have HRn : Hid (RS w (wA.setCell ⟨w.heap.size + 1 + 1, 4, none⟩ (.slice (some ⟨gg, 0, none⟩) (n4 + 1) cp)) t a1 b1 ⟨q0, n0, c0, q1, n1, c1, q2, n2, c2, q3, n3, c3, some ⟨gg, 0, none⟩, n4 + 1, cp⟩ ⟨X.R, X.W, X.O, X.U, X.S ++ [x0]⟩) := (HR1.out.al _).app4 hgrow hrow'
                        have HFn : Hid (∀ Y, RightX Y → txt Y = t → (⟨X.R, X.W, X.O, X.U, X.S ++ [x0]⟩ : SX) = ⟨Y.R, Y.W, Y.O, Y.U, Y.S.take (n4 + 1)⟩ ∧ b1 = false ∧ a1 = (tD Y ++ sT (Y.S.take (n4 + 1))).size) := fun Y hY hT => by
                          obtain ⟨e2, _, e4⟩ := HF.out Y hY hT
                          have hl0 := HR.out.o.rd.l0
                          dsimp only at hl0
                          have hlt : n4 < Y.S.length := by
                            rw [hY.2.2.2.2.1.1]
                            rw [e2] at hl0
                            dsimp only at hl0
                            omega
                          obtain ⟨r, hr⟩ := spl4 hlt
                          obtain ⟨k1, k2, k3⟩ := shortV_at ⟨rfl, e4⟩ (hT.symm.trans hr) (hY.num.s.2 n4 hlt) HS1.out
                          refine ⟨?_, k2, ?_⟩
                          · subst e2
                            rw [List.take_succ_eq_append_getElem hlt, k1]
                          · rw [k3, sT_take hlt]
                            simp only [ba_assoc]
                        have hsa : a1 ≤ t.size := by
                          rcases HS1.out with ⟨_, ⟨m, c, _, h6, h7, h8, h9⟩, _⟩ | ⟨_, h8, h9, _⟩
                          · rw [h9]; omega
                          · rw [h9]; exact ha
                        have hx20 : x0.size ≤ 20000 := by
                          rcases HS1.out with ⟨_, ⟨m, c, _, h6, h7, h8, _⟩, _⟩ | ⟨_, h8, _⟩
                          · rw [h8, ByteArray.size_extract]; omega
                          · rw [h8]; exact Nat.zero_le _
                        have HSMn : Hid (SmR ⟨q0, n0, c0, q1, n1, c1, q2, n2, c2, q3, n3, c3, some ⟨gg, 0, none⟩, n4 + 1, cp⟩ ⟨X.R, X.W, X.O, X.U, X.S ++ [x0]⟩) := ⟨HSM.out.n0, HSM.out.n1, HSM.out.n2, HSM.out.n3, by show n4 + 1 ≤ 50; omega, by
                          show S.bytesS (X.S ++ [x0]) ≤ 20000 * (n4 + 1)
                          rw [bytesS_add]
                          have := HSM4.out
                          omega, HSM.out.u⟩
                        clear hown' hrow' hgrow HR1 HS1 HF HSM HSM4 HR HRd hx20 hat hlt1
                        go_wp2
                        go_roundg (gk - 1)
                        case measure => omega
                        case rel => exact ⟨n4 + 1, a1, b1, ⟨q0, n0, c0, q1, n1, c1, q2, n2, c2, q3, n3, c3, some ⟨gg, 0, none⟩, n4 + 1, cp⟩, ⟨X.R, X.W, X.O, X.U, X.S ++ [x0]⟩, by omega, by go_num, rfl, by show n4 + 1 ≤ n0; omega, hsa, HRn, HFn, HSMn⟩
                      · skip
                        go_simp
                        go_at_call 33
                        refine (shortC (w.heap.size + 1) t a false ht ha _ HRd.out.c).mono ?_
                        rintro e w1 ⟨x0, a1, b1, rfl, hs, hc, hg⟩
                        have HR1 : Hid (RS w w1 t a1 b1 ⟨q0, n0, c0, q1, n1, c1, q2, n2, c2, q3, n3, c3, q4, n4, c4⟩ X) := HRd.out.read hc hg
                        have ks1 := boxO_cells HR1.out.sb
                        have HS1 : Hid (ShortV t a false x0 a1 b1) := hs
                        have hsz1 := HR1.out.bl.size
                        clear hs hc hg
                        go_wp2_with fail
                        refine hK.out _ _ trivial (fun hHeld => ?_)
                        clear hK K
                        try simp only [Act.put, List.setIfInBounds_toArray, List.set_cons_zero, List.set_cons_succ]
                        refine wpAnyH_ready (rs := [1, 4]) (by kernel_rfl) (by simp) ?_
                        refine AllReadyH.cons rfl (fun K hK => ?_) (AllReadyH.cons rfl (fun K hK => ?_) AllReadyH.nil)
                        · skip
                          go_simp
                          refine hK.out _ _ trivial (fun hHeld => ?_)
                          clear hK K
                          try simp only [Act.put, List.setIfInBounds_toArray, List.set_cons_zero, List.set_cons_succ]
                          refine wpAnyH_ready (rs := [4]) (by kernel_rfl) (by simp) ?_
                          refine AllReadyH.cons rfl (fun K hK => ?_) AllReadyH.nil
                          go_simp
                          have ks2 := boxO_cells ((HR1.out.al (.cells #[.string x0] 9)).sb)
                          have hown4 : (w1.alloc (.cells #[.string x0] 9)).ownsRow w.heap.size 9 1 (.slice q4 n4 c4) n4 (S.strV X.S) := World.ownsRow.alloc HR1.out.o.o4 _
                          refine hK.out _ _ trivial (fun hHeld => ?_)
                          clear hK K
                          try simp only [Act.put, List.setIfInBounds_toArray, List.set_cons_zero, List.set_cons_succ]
                          refine wpAnyH_ready (rs := [5]) (by kernel_rfl) (by simp) ?_
                          refine AllReadyH.cons rfl (fun K hK => ?_) AllReadyH.nil
                          refine step_append_lies _ rfl _ _ _ rfl w.heap.size 9 i0 _ 1 16 Tryz.underlying28 hi hz0 hz1' hz2' rfl (by omega) _ _ _ rfl hown4 ⟨w1.heap.size, 0, none⟩ 1 1 [.string x0] rfl rfl (World.news_of_block (cs := #[.string x0]) (t := 9) (fr := (0, 0)) (heap_new w1 _)) (by simp [Value.oneCell']) (by omega) (by unfold maxLen; omega) (by omega) (by simp; omega) (w1.heap.size + 1) (by simp) ?_
                          intro gg cp wA hown' hgrow hat hlt1
                          have ksA := boxO_cells ((HR1.out.al _).sbg hown4 (by decide) (by decide) hgrow)
                          refine hK.out _ _ trivial (fun hHeld => ?_)
                          clear hK K
                          try simp only [Act.put, List.setIfInBounds_toArray, List.set_cons_zero, List.set_cons_succ]
                          refine wpAnyH_take (i := 6) (v := ?_) rfl (by kernel_rfl) (by kernel_rfl) (by kernel_rfl) (fun _ _ _ h => h) (Or.inl ⟨by rfl, ?_⟩) (by assumption) ?_
                          rotate_left
                          · intro w hSw; (try dsimp only at hSw); go_simp <;> with_reducible rfl
                          try simp only [Act.put, List.setIfInBounds_toArray, List.set_cons_zero, List.set_cons_succ]
                          refine wpAnyH_ready (rs := [7]) (by kernel_rfl) (by simp) ?_
                          refine AllReadyH.cons rfl (fun K hK => ?_) AllReadyH.nil
                          go_simp
                          refine hK.out _ _ trivial (fun hHeld => ?_)
                          clear hK K
                          try simp only [Act.put, List.setIfInBounds_toArray, List.set_cons_zero, List.set_cons_succ]
                          refine wpAnyH_done (by kernel_rfl) ?_ _
                          have hrow' : wA.ownsRow w.heap.size 9 1 (.slice (some ⟨gg, 0, none⟩) (n4 + 1) cp) (n4 + 1) (S.strV (X.S ++ [x0])) := by
                            unfold S.strV
                            rw [List.map_append]
                            exact hown'
                          have HRn : Hid (RS w (wA.setCell ⟨w.heap.size + 1 + 1, 4, none⟩ (.slice (some ⟨gg, 0, none⟩) (n4 + 1) cp)) t a1 b1 ⟨q0, n0, c0, q1, n1, c1, q2, n2, c2, q3, n3, c3, some ⟨gg, 0, none⟩, n4 + 1, cp⟩ ⟨X.R, X.W, X.O, X.U, X.S ++ [x0]⟩) := (HR1.out.al _).app4 hgrow hrow'
                          have HFn : Hid (∀ Y, RightX Y → txt Y = t → (⟨X.R, X.W, X.O, X.U, X.S ++ [x0]⟩ : SX) = ⟨Y.R, Y.W, Y.O, Y.U, Y.S.take (n4 + 1)⟩ ∧ b1 = false ∧ a1 = (tD Y ++ sT (Y.S.take (n4 + 1))).size) := fun Y hY hT => by
                            obtain ⟨e2, _, e4⟩ := HF.out Y hY hT
                            have hl0 := HR.out.o.rd.l0
                            dsimp only at hl0
                            have hlt : n4 < Y.S.length := by
                              rw [hY.2.2.2.2.1.1]
                              rw [e2] at hl0
                              dsimp only at hl0
                              omega
                            obtain ⟨r, hr⟩ := spl4 hlt
                            obtain ⟨k1, k2, k3⟩ := shortV_at ⟨rfl, e4⟩ (hT.symm.trans hr) (hY.num.s.2 n4 hlt) HS1.out
                            refine ⟨?_, k2, ?_⟩
                            · subst e2
                              rw [List.take_succ_eq_append_getElem hlt, k1]
                            · rw [k3, sT_take hlt]
                              simp only [ba_assoc]
                          have hsa : a1 ≤ t.size := by
                            rcases HS1.out with ⟨_, ⟨m, c, _, h6, h7, h8, h9⟩, _⟩ | ⟨_, h8, h9, _⟩
                            · rw [h9]; omega
                            · rw [h9]; exact ha
                          have hx20 : x0.size ≤ 20000 := by
                            rcases HS1.out with ⟨_, ⟨m, c, _, h6, h7, h8, _⟩, _⟩ | ⟨_, h8, _⟩
                            · rw [h8, ByteArray.size_extract]; omega
                            · rw [h8]; exact Nat.zero_le _
                          have HSMn : Hid (SmR ⟨q0, n0, c0, q1, n1, c1, q2, n2, c2, q3, n3, c3, some ⟨gg, 0, none⟩, n4 + 1, cp⟩ ⟨X.R, X.W, X.O, X.U, X.S ++ [x0]⟩) := ⟨HSM.out.n0, HSM.out.n1, HSM.out.n2, HSM.out.n3, by show n4 + 1 ≤ 50; omega, by
                            show S.bytesS (X.S ++ [x0]) ≤ 20000 * (n4 + 1)
                            rw [bytesS_add]
                            have := HSM4.out
                            omega, HSM.out.u⟩
                          clear hown' hrow' hgrow HR1 HS1 HF HSM HSM4 HR HRd hx20 hat hlt1
                          go_wp2
                          go_roundg (gk - 1)
                          case measure => omega
                          case rel => exact ⟨n4 + 1, a1, b1, ⟨q0, n0, c0, q1, n1, c1, q2, n2, c2, q3, n3, c3, some ⟨gg, 0, none⟩, n4 + 1, cp⟩, ⟨X.R, X.W, X.O, X.U, X.S ++ [x0]⟩, by omega, by go_num, rfl, by show n4 + 1 ≤ n0; omega, hsa, HRn, HFn, HSMn⟩
                        · skip
                          go_simp
                          have ks2 := boxO_cells ((HR1.out.al (.cells #[.string x0] 9)).sb)
                          have hown4 : (w1.alloc (.cells #[.string x0] 9)).ownsRow w.heap.size 9 1 (.slice q4 n4 c4) n4 (S.strV X.S) := World.ownsRow.alloc HR1.out.o.o4 _
                          refine hK.out _ _ trivial (fun hHeld => ?_)
                          clear hK K
                          try simp only [Act.put, List.setIfInBounds_toArray, List.set_cons_zero, List.set_cons_succ]
                          refine wpAnyH_ready (rs := [1]) (by kernel_rfl) (by simp) ?_
                          refine AllReadyH.cons rfl (fun K hK => ?_) AllReadyH.nil
                          go_simp
                          refine hK.out _ _ trivial (fun hHeld => ?_)
                          clear hK K
                          try simp only [Act.put, List.setIfInBounds_toArray, List.set_cons_zero, List.set_cons_succ]
                          refine wpAnyH_ready (rs := [5]) (by kernel_rfl) (by simp) ?_
                          refine AllReadyH.cons rfl (fun K hK => ?_) AllReadyH.nil
                          refine step_append_lies _ rfl _ _ _ rfl w.heap.size 9 i0 _ 1 16 Tryz.underlying28 hi hz0 hz1' hz2' rfl (by omega) _ _ _ rfl hown4 ⟨w1.heap.size, 0, none⟩ 1 1 [.string x0] rfl rfl (World.news_of_block (cs := #[.string x0]) (t := 9) (fr := (0, 0)) (heap_new w1 _)) (by simp [Value.oneCell']) (by omega) (by unfold maxLen; omega) (by omega) (by simp; omega) (w1.heap.size + 1) (by simp) ?_
                          intro gg cp wA hown' hgrow hat hlt1
                          have ksA := boxO_cells ((HR1.out.al _).sbg hown4 (by decide) (by decide) hgrow)
                          refine hK.out _ _ trivial (fun hHeld => ?_)
                          clear hK K
                          try simp only [Act.put, List.setIfInBounds_toArray, List.set_cons_zero, List.set_cons_succ]
                          refine wpAnyH_take (i := 6) (v := ?_) rfl (by kernel_rfl) (by kernel_rfl) (by kernel_rfl) (fun _ _ _ h => h) (Or.inl ⟨by rfl, ?_⟩) (by assumption) ?_
                          rotate_left
                          · intro w hSw; (try dsimp only at hSw); go_simp <;> with_reducible rfl
                          try simp only [Act.put, List.setIfInBounds_toArray, List.set_cons_zero, List.set_cons_succ]
                          refine wpAnyH_ready (rs := [7]) (by kernel_rfl) (by simp) ?_
                          refine AllReadyH.cons rfl (fun K hK => ?_) AllReadyH.nil
                          go_simp
                          refine hK.out _ _ trivial (fun hHeld => ?_)
                          clear hK K
                          try simp only [Act.put, List.setIfInBounds_toArray, List.set_cons_zero, List.set_cons_succ]
                          refine wpAnyH_done (by kernel_rfl) ?_ _
                          have hrow' : wA.ownsRow w.heap.size 9 1 (.slice (some ⟨gg, 0, none⟩) (n4 + 1) cp) (n4 + 1) (S.strV (X.S ++ [x0])) := by
                            unfold S.strV
                            rw [List.map_append]
                            exact hown'
                          have HRn : Hid (RS w (wA.setCell ⟨w.heap.size + 1 + 1, 4, none⟩ (.slice (some ⟨gg, 0, none⟩) (n4 + 1) cp)) t a1 b1 ⟨q0, n0, c0, q1, n1, c1, q2, n2, c2, q3, n3, c3, some ⟨gg, 0, none⟩, n4 + 1, cp⟩ ⟨X.R, X.W, X.O, X.U, X.S ++ [x0]⟩) := (HR1.out.al _).app4 hgrow hrow'
                          have HFn : Hid (∀ Y, RightX Y → txt Y = t → (⟨X.R, X.W, X.O, X.U, X.S ++ [x0]⟩ : SX) = ⟨Y.R, Y.W, Y.O, Y.U, Y.S.take (n4 + 1)⟩ ∧ b1 = false ∧ a1 = (tD Y ++ sT (Y.S.take (n4 + 1))).size) := fun Y hY hT => by
                            obtain ⟨e2, _, e4⟩ := HF.out Y hY hT
                            have hl0 := HR.out.o.rd.l0
                            dsimp only at hl0
                            have hlt : n4 < Y.S.length := by
                              rw [hY.2.2.2.2.1.1]
                              rw [e2] at hl0
                              dsimp only at hl0
                              omega
                            obtain ⟨r, hr⟩ := spl4 hlt
                            obtain ⟨k1, k2, k3⟩ := shortV_at ⟨rfl, e4⟩ (hT.symm.trans hr) (hY.num.s.2 n4 hlt) HS1.out
                            refine ⟨?_, k2, ?_⟩
                            · subst e2
                              rw [List.take_succ_eq_append_getElem hlt, k1]
                            · rw [k3, sT_take hlt]
                              simp only [ba_assoc]
                          have hsa : a1 ≤ t.size := by
                            rcases HS1.out with ⟨_, ⟨m, c, _, h6, h7, h8, h9⟩, _⟩ | ⟨_, h8, h9, _⟩
                            · rw [h9]; omega
                            · rw [h9]; exact ha
                          have hx20 : x0.size ≤ 20000 := by
                            rcases HS1.out with ⟨_, ⟨m, c, _, h6, h7, h8, _⟩, _⟩ | ⟨_, h8, _⟩
                            · rw [h8, ByteArray.size_extract]; omega
                            · rw [h8]; exact Nat.zero_le _
                          have HSMn : Hid (SmR ⟨q0, n0, c0, q1, n1, c1, q2, n2, c2, q3, n3, c3, some ⟨gg, 0, none⟩, n4 + 1, cp⟩ ⟨X.R, X.W, X.O, X.U, X.S ++ [x0]⟩) := ⟨HSM.out.n0, HSM.out.n1, HSM.out.n2, HSM.out.n3, by show n4 + 1 ≤ 50; omega, by
                            show S.bytesS (X.S ++ [x0]) ≤ 20000 * (n4 + 1)
                            rw [bytesS_add]
                            have := HSM4.out
                            omega, HSM.out.u⟩
                          clear hown' hrow' hgrow HR1 HS1 HF HSM HSM4 HR HRd hx20 hat hlt1
                          go_wp2
                          go_roundg (gk - 1)
                          case measure => omega
                          case rel => exact ⟨n4 + 1, a1, b1, ⟨q0, n0, c0, q1, n1, c1, q2, n2, c2, q3, n3, c3, some ⟨gg, 0, none⟩, n4 + 1, cp⟩, ⟨X.R, X.W, X.O, X.U, X.S ++ [x0]⟩, by omega, by go_num, rfl, by show n4 + 1 ≤ n0; omega, hsa, HRn, HFn, HSMn⟩
                · have hcond := HCB.out.1 (by first | rfl | trivial)
                  obtain ⟨h1, h2, h3⟩ := hcond
                  subst h3
                  clear HCB
                  go_wp2_with fail
                  refine (varC (w.heap.size + 1) t a false ht ha _ HR.out.c).mono ?_
                  rintro e w1 ⟨x0, a1, b1, rfl, hs, hc, hg⟩
                  try clear kb
                  obtain ⟨f0, g0, ha1⟩ := hs.num ha
                  have HR1 : Hid (RS w w1 t a1 b1 ⟨q0, n0, c0, q1, n1, c1, q2, n2, c2, q3, n3, c3, q4, n4, c4⟩ X) := HR.out.read hc hg
                  have HF1 : Hid (∀ Y, RightX Y → txt Y = t → ∃ h : n3 < Y.U.length, nv3 = (Y.U.length : Int) ∧ X = ⟨Y.R, Y.W, Y.O, Y.U.take n3, []⟩ ∧ x0 = (Y.U[n3]).1 ∧ b1 = false ∧ a1 = ((tC Y ++ vX Y.U.length ++ uT (Y.U.take n3)) ++ vX (Y.U[n3]).1).size) := fun Y hY hT => by
                    obtain ⟨e1, e2, _, e4⟩ := HF.out Y hY hT
                    have hlt : n3 < Y.U.length := by omega
                    have hnum := (hY.num.u.2 n3 hlt).1
                    obtain ⟨k1, k2, k3⟩ := sum_step hT hs rfl e4 (spl3_0 hlt) hnum.1 hnum.2
                    exact ⟨hlt, e1, e2, k1, k2, k3⟩
                  have hlow := HR1.out.low
                  have hne := HR1.out.o.ne
                  obtain ⟨k1, hk1⟩ : ∃ k, w1.heap.size = k := ⟨_, rfl⟩
                  have HB1 : Hid ((w1.alloc (.cells #[.int .i64 x0, .int .i64 0, .int .i64 0] 54)).heap[k1]? = some (.cells #[.int .i64 x0, .int .i64 0, .int .i64 0] 54)) := by rw [← hk1]; exact heap_new w1 _
                  have HR1p : Hid (RS w (w1.alloc (.cells #[.int .i64 x0, .int .i64 0, .int .i64 0] 54)) t a1 b1 ⟨q0, n0, c0, q1, n1, c1, q2, n2, c2, q3, n3, c3, q4, n4, c4⟩ X) := HR1.out.al _
                  rw [hk1] at hlow hne
                  subst hk1
                  clear hs hc hg HR HF HR1 kc
                  go_wp2_with fail
                  refine (varC (w.heap.size + 1) t a1 b1 ht ha1 _ HR1p.out.c).mono ?_
                  rintro e w2 ⟨x1, a2, b2, rfl, hs, hc, hg⟩
                  try clear kb
                  obtain ⟨f1, g1, ha2⟩ := hs.num ha1
                  have HR2 : Hid (RS w w2 t a2 b2 ⟨q0, n0, c0, q1, n1, c1, q2, n2, c2, q3, n3, c3, q4, n4, c4⟩ X) := HR1p.out.read hc hg
                  have HF2 : Hid (∀ Y, RightX Y → txt Y = t → ∃ h : n3 < Y.U.length, nv3 = (Y.U.length : Int) ∧ X = ⟨Y.R, Y.W, Y.O, Y.U.take n3, []⟩ ∧ x0 = (Y.U[n3]).1 ∧ x1 = (Y.U[n3]).2.1 ∧ b2 = false ∧ a2 = ((tC Y ++ vX Y.U.length ++ uT (Y.U.take n3)) ++ vX (Y.U[n3]).1 ++ vX (Y.U[n3]).2.1).size) := fun Y hY hT => by
                    obtain ⟨hlt, e1, e2, y0, e3, e4⟩ := HF1.out Y hY hT
                    have hnum := (hY.num.u.2 n3 hlt).2.1
                    obtain ⟨k1, k2, k3⟩ := sum_step hT hs e3 e4 (spl3_1 hlt) hnum.1 hnum.2
                    exact ⟨hlt, e1, e2, y0, k1, k2, k3⟩
                  have HB2 : Hid (w2.heap[w1.heap.size]? = some (.cells #[.int .i64 x0, .int .i64 0, .int .i64 0] 54)) := row_rd hg HB1.out (by omega)
                  have kb := row3_cells HB2.out
                  have HR2p : Hid (RS w (w2.setCell ⟨w1.heap.size, 1, none⟩ (.int .i64 x1)) t a2 b2 ⟨q0, n0, c0, q1, n1, c1, q2, n2, c2, q3, n3, c3, q4, n4, c4⟩ X) := HR2.out.put hlow hne 1 _
                  have HB2p : Hid ((w2.setCell ⟨w1.heap.size, 1, none⟩ (.int .i64 x1)).heap[w1.heap.size]? = some (.cells #[.int .i64 x0, .int .i64 x1, .int .i64 0] 54)) := set_row5 HB2.out 1 _
                  skip
                  clear hs hc hg HR1p HF1 HB1 HR2 HB2
                  have HB2 := HB2p
                  clear HB2p
                  go_wp2_with fail
                  refine (varC (w.heap.size + 1) t a2 b2 ht ha2 _ HR2p.out.c).mono ?_
                  rintro e w3 ⟨x2, a3, b3, rfl, hs, hc, hg⟩
                  try clear kb
                  obtain ⟨f2, g2, ha3⟩ := hs.num ha2
                  have HR3 : Hid (RS w w3 t a3 b3 ⟨q0, n0, c0, q1, n1, c1, q2, n2, c2, q3, n3, c3, q4, n4, c4⟩ X) := HR2p.out.read hc hg
                  have HF3 : Hid (∀ Y, RightX Y → txt Y = t → ∃ h : n3 < Y.U.length, nv3 = (Y.U.length : Int) ∧ X = ⟨Y.R, Y.W, Y.O, Y.U.take n3, []⟩ ∧ x0 = (Y.U[n3]).1 ∧ x1 = (Y.U[n3]).2.1 ∧ x2 = (Y.U[n3]).2.2 ∧ b3 = false ∧ a3 = ((tC Y ++ vX Y.U.length ++ uT (Y.U.take n3)) ++ vX (Y.U[n3]).1 ++ vX (Y.U[n3]).2.1 ++ vX (Y.U[n3]).2.2).size) := fun Y hY hT => by
                    obtain ⟨hlt, e1, e2, y0, y1, e3, e4⟩ := HF2.out Y hY hT
                    have hnum := (hY.num.u.2 n3 hlt).2.2
                    obtain ⟨k1, k2, k3⟩ := sum_step hT hs e3 e4 (spl3_2 hlt) hnum.1 hnum.2
                    exact ⟨hlt, e1, e2, y0, y1, k1, k2, k3⟩
                  have HB3 : Hid (w3.heap[w1.heap.size]? = some (.cells #[.int .i64 x0, .int .i64 x1, .int .i64 0] 54)) := row_rd hg HB2.out (by omega)
                  have kb := row3_cells HB3.out
                  have HR3p : Hid (RS w (w3.setCell ⟨w1.heap.size, 2, none⟩ (.int .i64 x2)) t a3 b3 ⟨q0, n0, c0, q1, n1, c1, q2, n2, c2, q3, n3, c3, q4, n4, c4⟩ X) := HR3.out.put hlow hne 2 _
                  have HB3p : Hid ((w3.setCell ⟨w1.heap.size, 2, none⟩ (.int .i64 x2)).heap[w1.heap.size]? = some (.cells #[.int .i64 x0, .int .i64 x1, .int .i64 x2] 54)) := set_row5 HB3.out 2 _
                  have ks := boxO_cells HR3.out.sb
                  clear hs hc hg HR2p HF2 HB2 HR3 HB3
                  obtain ⟨i0, hi, hz0, hz1', hz2'⟩ := info_parts infoU
                  have HRa : Hid (RS w ((w3.setCell ⟨w1.heap.size, 2, none⟩ (.int .i64 x2)).alloc (.cells #[.int .i64 x0, .int .i64 x1, .int .i64 x2] 54)) t a3 b3 ⟨q0, n0, c0, q1, n1, c1, q2, n2, c2, q3, n3, c3, q4, n4, c4⟩ X) := HR3p.out.al _
                  have hown : ((w3.setCell ⟨w1.heap.size, 2, none⟩ (.int .i64 x2)).alloc (.cells #[.int .i64 x0, .int .i64 x1, .int .i64 x2] 54)).ownsRow w.heap.size 54 3 (.slice q3 n3 c3) n3 (rulV X.U) := HRa.out.o.o3
                  have hsz := HRa.out.bl.size
                  clear HR3p HB3p
                  go_wp2_with (at_builtin; refine wpList_append_own _ rfl _ _ 27 rfl w.heap.size 54 i0 (.agg #[.int .i64 0, .int .i64 0, .int .i64 0]) 3 24 Tryz.underlying27 hi hz0 hz1' hz2' rfl (by decide) _ _ _ rfl hown ⟨w3.heap.size, 0, none⟩ 1 1 [.int .i64 x0, .int .i64 x1, .int .i64 x2] rfl rfl ?c1 ?c2 ?c3 ?c4 ?c5 ?_)
                  case c1 => exact cell_k (by simp)
                  case c2 => intro u hu; simp at hu; rcases hu with rfl | rfl | rfl <;> rfl
                  case c3 => unfold maxLen; omega
                  case c4 => omega
                  case c5 => exact hsz
                  intro v' wA hown' hgrow _
                  obtain ⟨q', c', hv⟩ := own_shapeW hown'
                  subst hv
                  have hrow' : wA.ownsRow w.heap.size 54 3 (.slice q' (n3 + 1) c') (n3 + 1) (rulV (X.U ++ [(x0, x1, x2)])) := by rw [rulV_append]; exact hown'
                  have ksA := boxO_cells (HRa.out.sbg hown (by decide) (by decide) hgrow)
                  have HRn : Hid (RS w (wA.setCell ⟨w.heap.size + 1 + 1, 3, none⟩ (.slice q' (n3 + 1) c')) t a3 b3 ⟨q0, n0, c0, q1, n1, c1, q2, n2, c2, q', n3 + 1, c', q4, n4, c4⟩ ⟨X.R, X.W, X.O, X.U ++ [(x0, x1, x2)], X.S⟩) := HRa.out.app3 hgrow hrow'
                  have HFn : Hid (∀ Y, RightX Y → txt Y = t → nv3 = (Y.U.length : Int) ∧ (⟨X.R, X.W, X.O, X.U ++ [(x0, x1, x2)], X.S⟩ : SX) = ⟨Y.R, Y.W, Y.O, Y.U.take (n3 + 1), []⟩ ∧ b3 = false ∧ a3 = (tC Y ++ vX Y.U.length ++ uT (Y.U.take (n3 + 1))).size) := fun Y hY hT => by
                    obtain ⟨hlt, e1, e2, y0, y1, y2, e3, e4⟩ := HF3.out Y hY hT
                    refine ⟨e1, ?_, e3, ?_⟩
                    · subst e2
                      rw [List.take_succ_eq_append_getElem hlt, y0, y1, y2]
                    · rw [e4, uT_take hlt]
                      simp only [ba_assoc]
                  have HSMn : Hid (SmR ⟨q0, n0, c0, q1, n1, c1, q2, n2, c2, q', n3 + 1, c', q4, n4, c4⟩ ⟨X.R, X.W, X.O, X.U ++ [(x0, x1, x2)], X.S⟩) := ⟨HSM.out.n0, HSM.out.n1, HSM.out.n2, by show n3 + 1 ≤ 50; omega, HSM.out.n4, HSM.out.b, wfU_add HSM.out.u (wf_big f0 g0) (wf_big f1 g1) (wf_big f2 g2)⟩
                  clear hown hown' hrow' hgrow HRa HF3 HSM ks kb hsz
                  go_wp2
                  clear ksA
                  go_roundg (gk - 1)
                  case measure => omega
                  case rel => exact ⟨n3 + 1, a3, b3, ⟨q0, n0, c0, q1, n1, c1, q2, n2, c2, q', n3 + 1, c', q4, n4, c4⟩, ⟨X.R, X.W, X.O, X.U ++ [(x0, x1, x2)], X.S⟩, by omega, by go_num, rfl, ha3, HRn, HFn, HSMn, hz4⟩
            · have hcond := HCB.out.1 (by first | rfl | trivial)
              obtain ⟨h1, h2, h3⟩ := hcond
              subst h3
              clear HCB
              go_wp2_with fail
              refine (varC (w.heap.size + 1) t a false ht ha _ HR.out.c).mono ?_
              rintro e w1 ⟨x0, a1, b1, rfl, hs, hc, hg⟩
              try clear kb
              obtain ⟨f0, g0, ha1⟩ := hs.num ha
              have HR1 : Hid (RS w w1 t a1 b1 ⟨q0, n0, c0, q1, n1, c1, q2, n2, c2, q3, n3, c3, q4, n4, c4⟩ X) := HR.out.read hc hg
              have HF1 : Hid (∀ Y, RightX Y → txt Y = t → ∃ h : n2 < Y.O.length, nv2 = (Y.O.length : Int) ∧ X = ⟨Y.R, Y.W, Y.O.take n2, [], []⟩ ∧ x0 = (Y.O[n2]).1 ∧ b1 = false ∧ a1 = ((tB Y ++ vX Y.O.length ++ oT (Y.O.take n2)) ++ vX (Y.O[n2]).1).size) := fun Y hY hT => by
                obtain ⟨e1, e2, _, e4⟩ := HF.out Y hY hT
                have hlt : n2 < Y.O.length := by omega
                have hnum := (hY.num.o.2 n2 hlt).1
                obtain ⟨k1, k2, k3⟩ := sum_step hT hs rfl e4 (spl2_0 hlt) hnum.1 hnum.2
                exact ⟨hlt, e1, e2, k1, k2, k3⟩
              have hlow := HR1.out.low
              have hne := HR1.out.o.ne
              obtain ⟨k1, hk1⟩ : ∃ k, w1.heap.size = k := ⟨_, rfl⟩
              have HB1 : Hid ((w1.alloc (.cells #[.int .i64 x0, .int .i64 0, .int .i64 0, .int .i64 0, .int .i64 0] 52)).heap[k1]? = some (.cells #[.int .i64 x0, .int .i64 0, .int .i64 0, .int .i64 0, .int .i64 0] 52)) := by rw [← hk1]; exact heap_new w1 _
              have HR1p : Hid (RS w (w1.alloc (.cells #[.int .i64 x0, .int .i64 0, .int .i64 0, .int .i64 0, .int .i64 0] 52)) t a1 b1 ⟨q0, n0, c0, q1, n1, c1, q2, n2, c2, q3, n3, c3, q4, n4, c4⟩ X) := HR1.out.al _
              rw [hk1] at hlow hne
              subst hk1
              clear hs hc hg HR HF HR1 kc
              go_wp2_with fail
              refine (varC (w.heap.size + 1) t a1 b1 ht ha1 _ HR1p.out.c).mono ?_
              rintro e w2 ⟨x1, a2, b2, rfl, hs, hc, hg⟩
              try clear kb
              obtain ⟨f1, g1, ha2⟩ := hs.num ha1
              have HR2 : Hid (RS w w2 t a2 b2 ⟨q0, n0, c0, q1, n1, c1, q2, n2, c2, q3, n3, c3, q4, n4, c4⟩ X) := HR1p.out.read hc hg
              have HF2 : Hid (∀ Y, RightX Y → txt Y = t → ∃ h : n2 < Y.O.length, nv2 = (Y.O.length : Int) ∧ X = ⟨Y.R, Y.W, Y.O.take n2, [], []⟩ ∧ x0 = (Y.O[n2]).1 ∧ x1 = (Y.O[n2]).2.1 ∧ b2 = false ∧ a2 = ((tB Y ++ vX Y.O.length ++ oT (Y.O.take n2)) ++ vX (Y.O[n2]).1 ++ vX (Y.O[n2]).2.1).size) := fun Y hY hT => by
                obtain ⟨hlt, e1, e2, y0, e3, e4⟩ := HF1.out Y hY hT
                have hnum := (hY.num.o.2 n2 hlt).2.1
                obtain ⟨k1, k2, k3⟩ := sum_step hT hs e3 e4 (spl2_1 hlt) hnum.1 hnum.2
                exact ⟨hlt, e1, e2, y0, k1, k2, k3⟩
              have HB2 : Hid (w2.heap[w1.heap.size]? = some (.cells #[.int .i64 x0, .int .i64 0, .int .i64 0, .int .i64 0, .int .i64 0] 52)) := row_rd hg HB1.out (by omega)
              have kb := boxO_cells HB2.out
              have HR2p : Hid (RS w (w2.setCell ⟨w1.heap.size, 1, none⟩ (.int .i64 x1)) t a2 b2 ⟨q0, n0, c0, q1, n1, c1, q2, n2, c2, q3, n3, c3, q4, n4, c4⟩ X) := HR2.out.put hlow hne 1 _
              have HB2p : Hid ((w2.setCell ⟨w1.heap.size, 1, none⟩ (.int .i64 x1)).heap[w1.heap.size]? = some (.cells #[.int .i64 x0, .int .i64 x1, .int .i64 0, .int .i64 0, .int .i64 0] 52)) := set_row5 HB2.out 1 _
              skip
              clear hs hc hg HR1p HF1 HB1 HR2 HB2
              have HB2 := HB2p
              clear HB2p
              go_wp2_with fail
              refine (varC (w.heap.size + 1) t a2 b2 ht ha2 _ HR2p.out.c).mono ?_
              rintro e w3 ⟨x2, a3, b3, rfl, hs, hc, hg⟩
              try clear kb
              obtain ⟨f2, g2, ha3⟩ := hs.num ha2
              have HR3 : Hid (RS w w3 t a3 b3 ⟨q0, n0, c0, q1, n1, c1, q2, n2, c2, q3, n3, c3, q4, n4, c4⟩ X) := HR2p.out.read hc hg
              have HF3 : Hid (∀ Y, RightX Y → txt Y = t → ∃ h : n2 < Y.O.length, nv2 = (Y.O.length : Int) ∧ X = ⟨Y.R, Y.W, Y.O.take n2, [], []⟩ ∧ x0 = (Y.O[n2]).1 ∧ x1 = (Y.O[n2]).2.1 ∧ x2 = (Y.O[n2]).2.2.1 ∧ b3 = false ∧ a3 = ((tB Y ++ vX Y.O.length ++ oT (Y.O.take n2)) ++ vX (Y.O[n2]).1 ++ vX (Y.O[n2]).2.1 ++ vX (Y.O[n2]).2.2.1).size) := fun Y hY hT => by
                obtain ⟨hlt, e1, e2, y0, y1, e3, e4⟩ := HF2.out Y hY hT
                have hnum := (hY.num.o.2 n2 hlt).2.2.1
                obtain ⟨k1, k2, k3⟩ := sum_step hT hs e3 e4 (spl2_2 hlt) hnum.1 hnum.2
                exact ⟨hlt, e1, e2, y0, y1, k1, k2, k3⟩
              have HB3 : Hid (w3.heap[w1.heap.size]? = some (.cells #[.int .i64 x0, .int .i64 x1, .int .i64 0, .int .i64 0, .int .i64 0] 52)) := row_rd hg HB2.out (by omega)
              have kb := boxO_cells HB3.out
              have HR3p : Hid (RS w (w3.setCell ⟨w1.heap.size, 2, none⟩ (.int .i64 x2)) t a3 b3 ⟨q0, n0, c0, q1, n1, c1, q2, n2, c2, q3, n3, c3, q4, n4, c4⟩ X) := HR3.out.put hlow hne 2 _
              have HB3p : Hid ((w3.setCell ⟨w1.heap.size, 2, none⟩ (.int .i64 x2)).heap[w1.heap.size]? = some (.cells #[.int .i64 x0, .int .i64 x1, .int .i64 x2, .int .i64 0, .int .i64 0] 52)) := set_row5 HB3.out 2 _
              skip
              clear hs hc hg HR2p HF2 HB2 HR3 HB3
              have HB3 := HB3p
              clear HB3p
              go_wp2_with fail
              refine (varC (w.heap.size + 1) t a3 b3 ht ha3 _ HR3p.out.c).mono ?_
              rintro e w4 ⟨x3, a4, b4, rfl, hs, hc, hg⟩
              try clear kb
              obtain ⟨f3, g3, ha4⟩ := hs.num ha3
              have HR4 : Hid (RS w w4 t a4 b4 ⟨q0, n0, c0, q1, n1, c1, q2, n2, c2, q3, n3, c3, q4, n4, c4⟩ X) := HR3p.out.read hc hg
              have HF4 : Hid (∀ Y, RightX Y → txt Y = t → ∃ h : n2 < Y.O.length, nv2 = (Y.O.length : Int) ∧ X = ⟨Y.R, Y.W, Y.O.take n2, [], []⟩ ∧ x0 = (Y.O[n2]).1 ∧ x1 = (Y.O[n2]).2.1 ∧ x2 = (Y.O[n2]).2.2.1 ∧ x3 = (Y.O[n2]).2.2.2.1 ∧ b4 = false ∧ a4 = ((tB Y ++ vX Y.O.length ++ oT (Y.O.take n2)) ++ vX (Y.O[n2]).1 ++ vX (Y.O[n2]).2.1 ++ vX (Y.O[n2]).2.2.1 ++ vX (Y.O[n2]).2.2.2.1).size) := fun Y hY hT => by
                obtain ⟨hlt, e1, e2, y0, y1, y2, e3, e4⟩ := HF3.out Y hY hT
                have hnum := (hY.num.o.2 n2 hlt).2.2.2.1
                obtain ⟨k1, k2, k3⟩ := sum_step hT hs e3 e4 (spl2_3 hlt) hnum.1 hnum.2
                exact ⟨hlt, e1, e2, y0, y1, y2, k1, k2, k3⟩
              have HB4 : Hid (w4.heap[w1.heap.size]? = some (.cells #[.int .i64 x0, .int .i64 x1, .int .i64 x2, .int .i64 0, .int .i64 0] 52)) := row_rd hg HB3.out (by omega)
              have kb := boxO_cells HB4.out
              have HR4p : Hid (RS w (w4.setCell ⟨w1.heap.size, 3, none⟩ (.int .i64 x3)) t a4 b4 ⟨q0, n0, c0, q1, n1, c1, q2, n2, c2, q3, n3, c3, q4, n4, c4⟩ X) := HR4.out.put hlow hne 3 _
              have HB4p : Hid ((w4.setCell ⟨w1.heap.size, 3, none⟩ (.int .i64 x3)).heap[w1.heap.size]? = some (.cells #[.int .i64 x0, .int .i64 x1, .int .i64 x2, .int .i64 x3, .int .i64 0] 52)) := set_row5 HB4.out 3 _
              skip
              clear hs hc hg HR3p HF3 HB3 HR4 HB4
              have HB4 := HB4p
              clear HB4p
              go_wp2_with fail
              refine (varC (w.heap.size + 1) t a4 b4 ht ha4 _ HR4p.out.c).mono ?_
              rintro e w5 ⟨x4, a5, b5, rfl, hs, hc, hg⟩
              try clear kb
              obtain ⟨f4, g4, ha5⟩ := hs.num ha4
              have HR5 : Hid (RS w w5 t a5 b5 ⟨q0, n0, c0, q1, n1, c1, q2, n2, c2, q3, n3, c3, q4, n4, c4⟩ X) := HR4p.out.read hc hg
              have HF5 : Hid (∀ Y, RightX Y → txt Y = t → ∃ h : n2 < Y.O.length, nv2 = (Y.O.length : Int) ∧ X = ⟨Y.R, Y.W, Y.O.take n2, [], []⟩ ∧ x0 = (Y.O[n2]).1 ∧ x1 = (Y.O[n2]).2.1 ∧ x2 = (Y.O[n2]).2.2.1 ∧ x3 = (Y.O[n2]).2.2.2.1 ∧ x4 = (Y.O[n2]).2.2.2.2 ∧ b5 = false ∧ a5 = ((tB Y ++ vX Y.O.length ++ oT (Y.O.take n2)) ++ vX (Y.O[n2]).1 ++ vX (Y.O[n2]).2.1 ++ vX (Y.O[n2]).2.2.1 ++ vX (Y.O[n2]).2.2.2.1 ++ vX (Y.O[n2]).2.2.2.2).size) := fun Y hY hT => by
                obtain ⟨hlt, e1, e2, y0, y1, y2, y3, e3, e4⟩ := HF4.out Y hY hT
                have hnum := (hY.num.o.2 n2 hlt).2.2.2.2
                obtain ⟨k1, k2, k3⟩ := sum_step hT hs e3 e4 (spl2_4 hlt) hnum.1 hnum.2
                exact ⟨hlt, e1, e2, y0, y1, y2, y3, k1, k2, k3⟩
              have HB5 : Hid (w5.heap[w1.heap.size]? = some (.cells #[.int .i64 x0, .int .i64 x1, .int .i64 x2, .int .i64 x3, .int .i64 0] 52)) := row_rd hg HB4.out (by omega)
              have kb := boxO_cells HB5.out
              have HR5p : Hid (RS w (w5.setCell ⟨w1.heap.size, 4, none⟩ (.int .i64 x4)) t a5 b5 ⟨q0, n0, c0, q1, n1, c1, q2, n2, c2, q3, n3, c3, q4, n4, c4⟩ X) := HR5.out.put hlow hne 4 _
              have HB5p : Hid ((w5.setCell ⟨w1.heap.size, 4, none⟩ (.int .i64 x4)).heap[w1.heap.size]? = some (.cells #[.int .i64 x0, .int .i64 x1, .int .i64 x2, .int .i64 x3, .int .i64 x4] 52)) := set_row5 HB5.out 4 _
              have ks := boxO_cells HR5.out.sb
              clear hs hc hg HR4p HF4 HB4 HR5 HB5
              obtain ⟨i0, hi, hz0, hz1', hz2'⟩ := info_parts infoO
              have HRa : Hid (RS w ((w5.setCell ⟨w1.heap.size, 4, none⟩ (.int .i64 x4)).alloc (.cells #[.int .i64 x0, .int .i64 x1, .int .i64 x2, .int .i64 x3, .int .i64 x4] 52)) t a5 b5 ⟨q0, n0, c0, q1, n1, c1, q2, n2, c2, q3, n3, c3, q4, n4, c4⟩ X) := HR5p.out.al _
              have hown : ((w5.setCell ⟨w1.heap.size, 4, none⟩ (.int .i64 x4)).alloc (.cells #[.int .i64 x0, .int .i64 x1, .int .i64 x2, .int .i64 x3, .int .i64 x4] 52)).ownsRow w.heap.size 52 5 (.slice q2 n2 c2) n2 (prtV X.O) := HRa.out.o.o2
              have hsz := HRa.out.bl.size
              clear HR5p HB5p
              go_wp2_with (at_builtin; refine wpList_append_own _ rfl _ _ 26 rfl w.heap.size 52 i0 (.agg #[.int .i64 0, .int .i64 0, .int .i64 0, .int .i64 0, .int .i64 0]) 5 40 Tryz.underlying26 hi hz0 hz1' hz2' rfl (by decide) _ _ _ rfl hown ⟨w5.heap.size, 0, none⟩ 1 1 [.int .i64 x0, .int .i64 x1, .int .i64 x2, .int .i64 x3, .int .i64 x4] rfl rfl ?c1 ?c2 ?c3 ?c4 ?c5 ?_)
              case c1 => exact cell_k (by simp)
              case c2 => intro u hu; simp at hu; rcases hu with rfl | rfl | rfl | rfl | rfl <;> rfl
              case c3 => unfold maxLen; omega
              case c4 => omega
              case c5 => exact hsz
              intro v' wA hown' hgrow _
              obtain ⟨q', c', hv⟩ := own_shapeW hown'
              subst hv
              have hrow' : wA.ownsRow w.heap.size 52 5 (.slice q' (n2 + 1) c') (n2 + 1) (prtV (X.O ++ [(x0, x1, x2, x3, x4)])) := by rw [prtV_append]; exact hown'
              have ksA := boxO_cells (HRa.out.sbg hown (by decide) (by decide) hgrow)
              have HRn : Hid (RS w (wA.setCell ⟨w.heap.size + 1 + 1, 2, none⟩ (.slice q' (n2 + 1) c')) t a5 b5 ⟨q0, n0, c0, q1, n1, c1, q', n2 + 1, c', q3, n3, c3, q4, n4, c4⟩ ⟨X.R, X.W, X.O ++ [(x0, x1, x2, x3, x4)], X.U, X.S⟩) := HRa.out.app2 hgrow hrow'
              have HFn : Hid (∀ Y, RightX Y → txt Y = t → nv2 = (Y.O.length : Int) ∧ (⟨X.R, X.W, X.O ++ [(x0, x1, x2, x3, x4)], X.U, X.S⟩ : SX) = ⟨Y.R, Y.W, Y.O.take (n2 + 1), [], []⟩ ∧ b5 = false ∧ a5 = (tB Y ++ vX Y.O.length ++ oT (Y.O.take (n2 + 1))).size) := fun Y hY hT => by
                obtain ⟨hlt, e1, e2, y0, y1, y2, y3, y4, e3, e4⟩ := HF5.out Y hY hT
                refine ⟨e1, ?_, e3, ?_⟩
                · subst e2
                  rw [List.take_succ_eq_append_getElem hlt, y0, y1, y2, y3, y4]
                · rw [e4, oT_take hlt]
                  simp only [ba_assoc]
              have HSMn : Hid (SmR ⟨q0, n0, c0, q1, n1, c1, q', n2 + 1, c', q3, n3, c3, q4, n4, c4⟩ ⟨X.R, X.W, X.O ++ [(x0, x1, x2, x3, x4)], X.U, X.S⟩) := ⟨HSM.out.n0, HSM.out.n1, by show n2 + 1 ≤ 50; omega, HSM.out.n3, HSM.out.n4, HSM.out.b, HSM.out.u⟩
              clear hown hown' hrow' hgrow HRa HF5 HSM ks kb hsz
              go_wp2
              clear ksA
              go_roundg (gk - 1)
              case measure => omega
              case rel => exact ⟨n2 + 1, a5, b5, ⟨q0, n0, c0, q1, n1, c1, q', n2 + 1, c', q3, n3, c3, q4, n4, c4⟩, ⟨X.R, X.W, X.O ++ [(x0, x1, x2, x3, x4)], X.U, X.S⟩, by omega, by go_num, rfl, ha5, HRn, HFn, HSMn, hz3, hz4⟩
        · have hcond := HCB.out.1 (by first | rfl | trivial)
          obtain ⟨h1, h2, h3⟩ := hcond
          subst h3
          clear HCB
          go_wp2_with fail
          refine (varC (w.heap.size + 1) t a false ht ha _ HR.out.c).mono ?_
          rintro e w1 ⟨x0, a1, b1, rfl, hs, hc, hg⟩
          try clear kb
          obtain ⟨f0, g0, ha1⟩ := hs.num ha
          have HR1 : Hid (RS w w1 t a1 b1 ⟨q0, n0, c0, q1, n1, c1, q2, n2, c2, q3, n3, c3, q4, n4, c4⟩ X) := HR.out.read hc hg
          have HF1 : Hid (∀ Y, RightX Y → txt Y = t → ∃ h : n1 < Y.W.length, nv1 = (Y.W.length : Int) ∧ X = ⟨Y.R, Y.W.take n1, [], [], []⟩ ∧ x0 = (Y.W[n1]).1 ∧ b1 = false ∧ a1 = ((tA Y ++ vX Y.W.length ++ pT (Y.W.take n1)) ++ vX (Y.W[n1]).1).size) := fun Y hY hT => by
            obtain ⟨e1, e2, _, e4⟩ := HF.out Y hY hT
            have hlt : n1 < Y.W.length := by omega
            have hnum := (hY.num.w.2 n1 hlt).1
            obtain ⟨k1, k2, k3⟩ := sum_step hT hs rfl e4 (spl1_0 hlt) hnum.1 hnum.2
            exact ⟨hlt, e1, e2, k1, k2, k3⟩
          have hlow := HR1.out.low
          have hne := HR1.out.o.ne
          obtain ⟨k1, hk1⟩ : ∃ k, w1.heap.size = k := ⟨_, rfl⟩
          have HB1 : Hid ((w1.alloc (.cells #[.int .i64 x0, .int .i64 0] 50)).heap[k1]? = some (.cells #[.int .i64 x0, .int .i64 0] 50)) := by rw [← hk1]; exact heap_new w1 _
          have HR1p : Hid (RS w (w1.alloc (.cells #[.int .i64 x0, .int .i64 0] 50)) t a1 b1 ⟨q0, n0, c0, q1, n1, c1, q2, n2, c2, q3, n3, c3, q4, n4, c4⟩ X) := HR1.out.al _
          rw [hk1] at hlow hne
          subst hk1
          clear hs hc hg HR HF HR1 kc
          go_wp2_with fail
          refine (varC (w.heap.size + 1) t a1 b1 ht ha1 _ HR1p.out.c).mono ?_
          rintro e w2 ⟨x1, a2, b2, rfl, hs, hc, hg⟩
          try clear kb
          obtain ⟨f1, g1, ha2⟩ := hs.num ha1
          have HR2 : Hid (RS w w2 t a2 b2 ⟨q0, n0, c0, q1, n1, c1, q2, n2, c2, q3, n3, c3, q4, n4, c4⟩ X) := HR1p.out.read hc hg
          have HF2 : Hid (∀ Y, RightX Y → txt Y = t → ∃ h : n1 < Y.W.length, nv1 = (Y.W.length : Int) ∧ X = ⟨Y.R, Y.W.take n1, [], [], []⟩ ∧ x0 = (Y.W[n1]).1 ∧ x1 = (Y.W[n1]).2 ∧ b2 = false ∧ a2 = ((tA Y ++ vX Y.W.length ++ pT (Y.W.take n1)) ++ vX (Y.W[n1]).1 ++ vX (Y.W[n1]).2).size) := fun Y hY hT => by
            obtain ⟨hlt, e1, e2, y0, e3, e4⟩ := HF1.out Y hY hT
            have hnum := (hY.num.w.2 n1 hlt).2
            obtain ⟨k1, k2, k3⟩ := sum_step hT hs e3 e4 (spl1_1 hlt) hnum.1 hnum.2
            exact ⟨hlt, e1, e2, y0, k1, k2, k3⟩
          have HB2 : Hid (w2.heap[w1.heap.size]? = some (.cells #[.int .i64 x0, .int .i64 0] 50)) := row_rd hg HB1.out (by omega)
          have kb := row2_cells HB2.out
          have HR2p : Hid (RS w (w2.setCell ⟨w1.heap.size, 1, none⟩ (.int .i64 x1)) t a2 b2 ⟨q0, n0, c0, q1, n1, c1, q2, n2, c2, q3, n3, c3, q4, n4, c4⟩ X) := HR2.out.put hlow hne 1 _
          have HB2p : Hid ((w2.setCell ⟨w1.heap.size, 1, none⟩ (.int .i64 x1)).heap[w1.heap.size]? = some (.cells #[.int .i64 x0, .int .i64 x1] 50)) := set_row5 HB2.out 1 _
          have ks := boxO_cells HR2.out.sb
          clear hs hc hg HR1p HF1 HB1 HR2 HB2
          obtain ⟨i0, hi, hz0, hz1', hz2'⟩ := info_parts infoR
          have HRa : Hid (RS w ((w2.setCell ⟨w1.heap.size, 1, none⟩ (.int .i64 x1)).alloc (.cells #[.int .i64 x0, .int .i64 x1] 50)) t a2 b2 ⟨q0, n0, c0, q1, n1, c1, q2, n2, c2, q3, n3, c3, q4, n4, c4⟩ X) := HR2p.out.al _
          have hown : ((w2.setCell ⟨w1.heap.size, 1, none⟩ (.int .i64 x1)).alloc (.cells #[.int .i64 x0, .int .i64 x1] 50)).ownsRow w.heap.size 50 2 (.slice q1 n1 c1) n1 (regsV X.W) := HRa.out.o.o1
          have hsz := HRa.out.bl.size
          clear HR2p HB2p
          go_wp2_with (at_builtin; refine wpList_append_own _ rfl _ _ 25 rfl w.heap.size 50 i0 (.agg #[.int .i64 0, .int .i64 0]) 2 16 Tryz.underlying25 hi hz0 hz1' hz2' rfl (by decide) _ _ _ rfl hown ⟨w2.heap.size, 0, none⟩ 1 1 [.int .i64 x0, .int .i64 x1] rfl rfl ?c1 ?c2 ?c3 ?c4 ?c5 ?_)
          case c1 => exact cell_k (by simp)
          case c2 => intro u hu; simp at hu; rcases hu with rfl | rfl <;> rfl
          case c3 => unfold maxLen; omega
          case c4 => omega
          case c5 => exact hsz
          intro v' wA hown' hgrow _
          obtain ⟨q', c', hv⟩ := own_shapeW hown'
          subst hv
          have hrow' : wA.ownsRow w.heap.size 50 2 (.slice q' (n1 + 1) c') (n1 + 1) (regsV (X.W ++ [(x0, x1)])) := by rw [regsV_append]; exact hown'
          have ksA := boxO_cells (HRa.out.sbg hown (by decide) (by decide) hgrow)
          have HRn : Hid (RS w (wA.setCell ⟨w.heap.size + 1 + 1, 1, none⟩ (.slice q' (n1 + 1) c')) t a2 b2 ⟨q0, n0, c0, q', n1 + 1, c', q2, n2, c2, q3, n3, c3, q4, n4, c4⟩ ⟨X.R, X.W ++ [(x0, x1)], X.O, X.U, X.S⟩) := HRa.out.app1 hgrow hrow'
          have HFn : Hid (∀ Y, RightX Y → txt Y = t → nv1 = (Y.W.length : Int) ∧ (⟨X.R, X.W ++ [(x0, x1)], X.O, X.U, X.S⟩ : SX) = ⟨Y.R, Y.W.take (n1 + 1), [], [], []⟩ ∧ b2 = false ∧ a2 = (tA Y ++ vX Y.W.length ++ pT (Y.W.take (n1 + 1))).size) := fun Y hY hT => by
            obtain ⟨hlt, e1, e2, y0, y1, e3, e4⟩ := HF2.out Y hY hT
            refine ⟨e1, ?_, e3, ?_⟩
            · subst e2
              rw [List.take_succ_eq_append_getElem hlt, y0, y1]
            · rw [e4, pT_take hlt]
              simp only [ba_assoc]
          have HSMn : Hid (SmR ⟨q0, n0, c0, q', n1 + 1, c', q2, n2, c2, q3, n3, c3, q4, n4, c4⟩ ⟨X.R, X.W ++ [(x0, x1)], X.O, X.U, X.S⟩) := ⟨HSM.out.n0, by show n1 + 1 ≤ 50; omega, HSM.out.n2, HSM.out.n3, HSM.out.n4, HSM.out.b, HSM.out.u⟩
          clear hown hown' hrow' hgrow HRa HF2 HSM ks kb hsz
          go_wp2
          clear ksA
          go_roundg (gk - 1)
          case measure => omega
          case rel => exact ⟨n1 + 1, a2, b2, ⟨q0, n0, c0, q', n1 + 1, c', q2, n2, c2, q3, n3, c3, q4, n4, c4⟩, ⟨X.R, X.W ++ [(x0, x1)], X.O, X.U, X.S⟩, by omega, by go_num, rfl, ha2, HRn, HFn, HSMn, hz2, hz3, hz4⟩
    · have hcond := HCB.out.1 (by first | rfl | trivial)
      obtain ⟨h1, h2, h3⟩ := hcond
      subst h3
      clear HCB
      go_wp2_with fail
      refine (varC (w.heap.size + 1) t a false ht ha _ HR.out.c).mono ?_
      rintro e w1 ⟨x0, a1, b1, rfl, hs, hc, hg⟩
      try clear kb
      obtain ⟨f0, g0, ha1⟩ := hs.num ha
      have HR1 : Hid (RS w w1 t a1 b1 ⟨q0, n0, c0, q1, n1, c1, q2, n2, c2, q3, n3, c3, q4, n4, c4⟩ X) := HR.out.read hc hg
      have HF1 : Hid (∀ Y, RightX Y → txt Y = t → ∃ h : n0 < Y.R.length, nv0 = (Y.R.length : Int) ∧ X = ⟨Y.R.take n0, [], [], [], []⟩ ∧ x0 = (Y.R[n0]).1 ∧ b1 = false ∧ a1 = ((vX Y.R.length ++ pT (Y.R.take n0)) ++ vX (Y.R[n0]).1).size) := fun Y hY hT => by
        obtain ⟨e1, e2, _, e4⟩ := HF.out Y hY hT
        have hlt : n0 < Y.R.length := by omega
        have hnum := (hY.num.r.2 n0 hlt).1
        obtain ⟨k1, k2, k3⟩ := sum_step hT hs rfl e4 (spl0_0 hlt) hnum.1 hnum.2
        exact ⟨hlt, e1, e2, k1, k2, k3⟩
      have hlow := HR1.out.low
      have hne := HR1.out.o.ne
      obtain ⟨k1, hk1⟩ : ∃ k, w1.heap.size = k := ⟨_, rfl⟩
      have HB1 : Hid ((w1.alloc (.cells #[.int .i64 x0, .int .i64 0] 48)).heap[k1]? = some (.cells #[.int .i64 x0, .int .i64 0] 48)) := by rw [← hk1]; exact heap_new w1 _
      have HR1p : Hid (RS w (w1.alloc (.cells #[.int .i64 x0, .int .i64 0] 48)) t a1 b1 ⟨q0, n0, c0, q1, n1, c1, q2, n2, c2, q3, n3, c3, q4, n4, c4⟩ X) := HR1.out.al _
      rw [hk1] at hlow hne
      subst hk1
      clear hs hc hg HR HF HR1 kc
      go_wp2_with fail
      refine (varC (w.heap.size + 1) t a1 b1 ht ha1 _ HR1p.out.c).mono ?_
      rintro e w2 ⟨x1, a2, b2, rfl, hs, hc, hg⟩
      try clear kb
      obtain ⟨f1, g1, ha2⟩ := hs.num ha1
      have HR2 : Hid (RS w w2 t a2 b2 ⟨q0, n0, c0, q1, n1, c1, q2, n2, c2, q3, n3, c3, q4, n4, c4⟩ X) := HR1p.out.read hc hg
      have HF2 : Hid (∀ Y, RightX Y → txt Y = t → ∃ h : n0 < Y.R.length, nv0 = (Y.R.length : Int) ∧ X = ⟨Y.R.take n0, [], [], [], []⟩ ∧ x0 = (Y.R[n0]).1 ∧ x1 = (Y.R[n0]).2 ∧ b2 = false ∧ a2 = ((vX Y.R.length ++ pT (Y.R.take n0)) ++ vX (Y.R[n0]).1 ++ vX (Y.R[n0]).2).size) := fun Y hY hT => by
        obtain ⟨hlt, e1, e2, y0, e3, e4⟩ := HF1.out Y hY hT
        have hnum := (hY.num.r.2 n0 hlt).2
        obtain ⟨k1, k2, k3⟩ := sum_step hT hs e3 e4 (spl0_1 hlt) hnum.1 hnum.2
        exact ⟨hlt, e1, e2, y0, k1, k2, k3⟩
      have HB2 : Hid (w2.heap[w1.heap.size]? = some (.cells #[.int .i64 x0, .int .i64 0] 48)) := row_rd hg HB1.out (by omega)
      have kb := R.row2_cells HB2.out
      have HR2p : Hid (RS w (w2.setCell ⟨w1.heap.size, 1, none⟩ (.int .i64 x1)) t a2 b2 ⟨q0, n0, c0, q1, n1, c1, q2, n2, c2, q3, n3, c3, q4, n4, c4⟩ X) := HR2.out.put hlow hne 1 _
      have HB2p : Hid ((w2.setCell ⟨w1.heap.size, 1, none⟩ (.int .i64 x1)).heap[w1.heap.size]? = some (.cells #[.int .i64 x0, .int .i64 x1] 48)) := set_row5 HB2.out 1 _
      have ks := boxO_cells HR2.out.sb
      clear hs hc hg HR1p HF1 HB1 HR2 HB2
      obtain ⟨i0, hi, hz0, hz1', hz2'⟩ := info_parts R.infoR
      have HRa : Hid (RS w ((w2.setCell ⟨w1.heap.size, 1, none⟩ (.int .i64 x1)).alloc (.cells #[.int .i64 x0, .int .i64 x1] 48)) t a2 b2 ⟨q0, n0, c0, q1, n1, c1, q2, n2, c2, q3, n3, c3, q4, n4, c4⟩ X) := HR2p.out.al _
      have hown : ((w2.setCell ⟨w1.heap.size, 1, none⟩ (.int .i64 x1)).alloc (.cells #[.int .i64 x0, .int .i64 x1] 48)).ownsRow w.heap.size 48 2 (.slice q0 n0 c0) n0 (R.regsV X.R) := HRa.out.o.o0
      have hsz := HRa.out.bl.size
      clear HR2p HB2p
      go_wp2_with (at_builtin; refine wpList_append_own _ rfl _ _ 24 rfl w.heap.size 48 i0 (.agg #[.int .i64 0, .int .i64 0]) 2 16 Tryz.underlying24 hi hz0 hz1' hz2' rfl (by decide) _ _ _ rfl hown ⟨w2.heap.size, 0, none⟩ 1 1 [.int .i64 x0, .int .i64 x1] rfl rfl ?c1 ?c2 ?c3 ?c4 ?c5 ?_)
      case c1 => exact cell_k (by simp)
      case c2 => intro u hu; simp at hu; rcases hu with rfl | rfl <;> rfl
      case c3 => unfold maxLen; omega
      case c4 => omega
      case c5 => exact hsz
      intro v' wA hown' hgrow _
      obtain ⟨q', c', hv⟩ := own_shapeW hown'
      subst hv
      have hrow' : wA.ownsRow w.heap.size 48 2 (.slice q' (n0 + 1) c') (n0 + 1) (R.regsV (X.R ++ [(x0, x1)])) := by rw [R.regsV_append]; exact hown'
      have ksA := boxO_cells (HRa.out.sbg hown (by decide) (by decide) hgrow)
      have HRn : Hid (RS w (wA.setCell ⟨w.heap.size + 1 + 1, 0, none⟩ (.slice q' (n0 + 1) c')) t a2 b2 ⟨q', n0 + 1, c', q1, n1, c1, q2, n2, c2, q3, n3, c3, q4, n4, c4⟩ ⟨X.R ++ [(x0, x1)], X.W, X.O, X.U, X.S⟩) := HRa.out.app0 hgrow hrow'
      have HFn : Hid (∀ Y, RightX Y → txt Y = t → nv0 = (Y.R.length : Int) ∧ (⟨X.R ++ [(x0, x1)], X.W, X.O, X.U, X.S⟩ : SX) = ⟨Y.R.take (n0 + 1), [], [], [], []⟩ ∧ b2 = false ∧ a2 = (vX Y.R.length ++ pT (Y.R.take (n0 + 1))).size) := fun Y hY hT => by
        obtain ⟨hlt, e1, e2, y0, y1, e3, e4⟩ := HF2.out Y hY hT
        refine ⟨e1, ?_, e3, ?_⟩
        · subst e2
          rw [List.take_succ_eq_append_getElem hlt, y0, y1]
        · rw [e4, pT_take hlt]
          simp only [ba_assoc]
      have HSMn : Hid (SmR ⟨q', n0 + 1, c', q1, n1, c1, q2, n2, c2, q3, n3, c3, q4, n4, c4⟩ ⟨X.R ++ [(x0, x1)], X.W, X.O, X.U, X.S⟩) := ⟨by show n0 + 1 ≤ 50; omega, HSM.out.n1, HSM.out.n2, HSM.out.n3, HSM.out.n4, HSM.out.b, HSM.out.u⟩
      clear hown hown' hrow' hgrow HRa HF2 HSM ks kb hsz
      go_wp2
      clear ksA
      go_roundg (gk - 1)
      case measure => omega
      case rel => exact ⟨n0 + 1, a2, b2, ⟨q', n0 + 1, c', q1, n1, c1, q2, n2, c2, q3, n3, c3, q4, n4, c4⟩, ⟨X.R ++ [(x0, x1)], X.W, X.O, X.U, X.S⟩, by omega, by go_num, rfl, ha2, HRn, HFn, HSMn, hz1, hz2, hz3, hz4⟩
end Go.Proofs.YtadbekhekggpkaaGreatDoor
