/-
  Plans of the program: isPart, isBudget, PlanOk, TimeOf, WindowAt.
-/
import Derived.Test.YtadbekhekggpkaaGreatDoorPlan9
import Derived.Test.YtadbekhekggpkaaGreatDoorAppWin
import Derived.Test.YtadbekhekggpkaaGreatDoorRu10
import Derived.Maps.OwnSet
import Derived.DeepKeys4
import Derived.Test.YtadbekhekggpkaaGreatDoorFaultM
namespace Go.Proofs.YtadbekhekggpkaaGreatDoor
open Go.RowKit Go.PlainAid
set_option linter.unusedVariables false

theorem partI (n : Int) (b : Bool) (hb : decide (1 ≤ n ∧ n ≤ 4) = b) (w : World) : Calls Tryz.prog 105 #[.int .i64 n] w fun e w' => e = .returned (.bool b) ∧ Below w.heap.size w w' := by
  go_enter Tryz.func105, Tryz.ntmps105
  go_wp2_with fail
  refine (holdsI 1 4 n b hb _).mono ?_
  rintro e w1 ⟨rfl, hb1⟩
  go_wp2
  go_ret
  exact ⟨rfl, hb1⟩
theorem budgetI (n : Int) (b : Bool) (hb : decide (1 ≤ n ∧ n ≤ 200) = b) (w : World) : Calls Tryz.prog 106 #[.int .i64 n] w fun e w' => e = .returned (.bool b) ∧ Below w.heap.size w w' := by
  go_enter Tryz.func106, Tryz.ntmps106
  go_wp2_with fail
  refine (holdsI 1 200 n b hb _).mono ?_
  rintro e w1 ⟨rfl, hb1⟩
  go_wp2
  go_ret
  exact ⟨rfl, hb1⟩

set_option maxRecDepth 100000 in
set_option maxHeartbeats 2000000 in
theorem planI (a : Option Addr) (rl : List (Int × Int)) (n cap : Nat) (b : Bool) (hl : rl.length = n) (hn : n ≤ 1048576) (hb : b = true ↔ PlanR rl) (w : World) (hr : RdR w a rl) :
    Calls Tryz.prog 65 #[.slice a n cap] w fun e w' => e = .returned (.bool b) ∧ Below w.heap.size w w' := by
  have HB : Hid (b = true ↔ PlanR rl) := hb
  have HL : Hid (rl.length = n) := hl
  clear hb hl
  by_cases hs : 1 ≤ n ∧ n ≤ 12
  · obtain ⟨hs1, hs2⟩ := hs
    obtain ⟨g, off, rfl, hc⟩ := hr (by have := HL.out; omega)
    have HC : Hid (∀ j (h : j < rl.length), w.cell? ⟨g, off + j * 2, none⟩ = some (.int .i64 rl[j].1) ∧ w.cell? ⟨g, off + j * 2 + 1, none⟩ = some (.int .i64 rl[j].2)) := hc
    have hgl : g < w.heap.size := World.block_lt_of_cell? w ⟨g, off + 0 * 2, none⟩ (hc 0 (by have := HL.out; omega)).1
    clear hr hc
    go_enter Tryz.func65, Tryz.ntmps65
    go_wp2_with fail
    refine (holdsI 1 12 (n : Int) true (decide_eq_true ⟨by omega, by omega⟩) _).mono ?_
    rintro e w0 ⟨rfl, hb0⟩
    have HW0 : Hid (Below w.heap.size w w0) := hb0
    clear hb0
    go_wp2
    go_loopg [12] n (fun gk i wr => ∃ j : Nat, j + gk = n ∧ i = .int .i64 j ∧ Hid (AllP rl j) ∧ Hid (Below w.heap.size w wr))
    case atStart => exact ⟨0, by omega, rfl, allP_zero rl, HW0⟩
    case round =>
      obtain ⟨j, hj, rfl, HI, HW⟩ := hrel
      by_cases hlt : j < n
      · have hjl : j < rl.length := by have := HL.out; omega
        have c0 := HC.out j hjl
        have c1 := (HW.out.cell (p := ⟨g, off + j * 2, none⟩) hgl).trans c0.1
        have c2 := (HW.out.cell (p := ⟨g, off + j * 2 + 1, none⟩) hgl).trans c0.2
        clear c0
        obtain ⟨f, hf⟩ : ∃ f, rl[j].1 = f := ⟨_, rfl⟩
        obtain ⟨s, hs⟩ : ∃ s, rl[j].2 = s := ⟨_, rfl⟩
        rw [hf] at c1
        rw [hs] at c2
        have HF : Hid (rl[j].1 = f ∧ rl[j].2 = s) := ⟨hf, hs⟩
        clear hf hs
        have HBX : Hid ((wr.alloc (.cells #[.int .i64 f, .int .i64 s] 50)).heap[wr.heap.size]? = some (.cells #[.int .i64 f, .int .i64 s] 50)) := heap_new wr _
        have HWX : Hid (Below w.heap.size w (wr.alloc (.cells #[.int .i64 f, .int .i64 s] 50))) := HW.out.alloc HW.out.size _
        clear HW
        by_cases hf : 1 ≤ f ∧ f ≤ 4
        · have hd1 : decide ((1 : Int) ≤ f ∧ f ≤ 4) = true := decide_eq_true hf
          go_wp2_with fail
          refine (partI f true hd1 _).mono ?_
          rintro e w1 ⟨rfl, hb1⟩
          have k1 := row2_cells (row_after HBX.out hb1 (row_lt HBX.out))
          have HW1 : Hid (Below w.heap.size w w1) := HWX.out.trans (hb1.mono HWX.out.size)
          clear hb1 hd1 HBX HWX c1 c2
          by_cases hs : 1 ≤ s ∧ s ≤ 200
          · have hd2 : decide ((1 : Int) ≤ s ∧ s ≤ 200) = true := decide_eq_true hs
            have HI' : Hid (AllP rl (j + 1)) := allP_succ HI.out hjl (by rw [HF.out.1, HF.out.2]; exact ⟨hf, hs⟩)
            clear hf hs HI
            go_wp2_with fail
            refine (budgetI s true hd2 _).mono ?_
            rintro e w2 ⟨rfl, hb2⟩
            have HW2 : Hid (Below w.heap.size w w2) := HW1.out.trans (hb2.mono HW1.out.size)
            clear hb2 hd2 k1 HW1
            go_wp2
            go_roundg (gk - 1)
            case measure => omega
            case rel => exact ⟨j + 1, by omega, by go_num, HI', HW2⟩
          · have hd2 : decide ((1 : Int) ≤ s ∧ s ≤ 200) = false := decide_eq_false hs
            have HE : Hid (b = false) := not_plan HB.out j hjl (by rw [HF.out.1, HF.out.2]; exact fun h => hs h.2)
            clear hf hs HI
            go_wp2_with fail
            refine (budgetI s false hd2 _).mono ?_
            rintro e w2 ⟨rfl, hb2⟩
            have HW2 : Hid (Below w.heap.size w w2) := HW1.out.trans (hb2.mono HW1.out.size)
            clear hb2 hd2 k1 HW1
            go_wp2
            go_ret
            exact ⟨by rw [HE.out]; rfl, HW2.out⟩
        · have hd1 : decide ((1 : Int) ≤ f ∧ f ≤ 4) = false := decide_eq_false hf
          have HE : Hid (b = false) := not_plan HB.out j hjl (by rw [HF.out.1, HF.out.2]; exact fun h => hf h.1)
          clear hf HI
          go_wp2_with fail
          refine (partI f false hd1 _).mono ?_
          rintro e w1 ⟨rfl, hb1⟩
          have HW1 : Hid (Below w.heap.size w w1) := HWX.out.trans (hb1.mono HWX.out.size)
          clear hb1 hd1 HBX HWX c1 c2
          go_wp2
          go_ret
          exact ⟨by rw [HE.out]; rfl, HW1.out⟩
      · have HE : Hid (b = true) := HB.out.2 ⟨by have := HL.out; omega, fun i h => HI.out i h (by have := HL.out; omega)⟩
        go_wp2
        go_ret
        exact ⟨by rw [HE.out]; rfl, HW.out⟩
  · have HE : Hid (b = false) := not_size HB.out (by have := HL.out; omega)
    clear hr
    go_enter Tryz.func65, Tryz.ntmps65
    go_wp2_with fail
    refine (holdsI 1 12 (n : Int) false (decide_eq_false (fun h => hs ⟨by omega, by omega⟩)) _).mono ?_
    rintro e w0 ⟨rfl, hb0⟩
    have HW0 : Hid (Below w.heap.size w w0) := hb0
    clear hb0
    go_wp2
    go_ret
    exact ⟨by rw [HE.out]; rfl, HW0.out⟩

end Go.Proofs.YtadbekhekggpkaaGreatDoor

namespace Go.Proofs.YtadbekhekggpkaaGreatDoor
open Go.RowKit Go.PlainAid Go.Maps
set_option linter.unusedVariables false

/-- the act of the first rule for p and f -/
def actOf : List Rule → Int → Int → Option Int
  | [], _, _ => none
  | r :: t, p, f => if r.1 = p ∧ r.2.1 = f then some r.2.2 else actOf t p f
/-- .. without one -/
def actBase (f : Int) : Int := if f = 1 then 3 else 0
/-- .. who starts too often -/
def actFin (a s : Int) : Int := if (a = 1 ∨ a = 2) ∧ 3 ≤ s then 3 else a
def actR (l : List Rule) (p f s : Int) : Int := actFin ((actOf l p f).getD (actBase f)) s

theorem actOf_snoc : ∀ (l : List Rule) (r : Rule) (p f : Int), actOf (l ++ [r]) p f = (actOf l p f).or (if r.1 = p ∧ r.2.1 = f then some r.2.2 else none)
  | [], r, p, f => by simp [actOf]
  | x :: t, r, p, f => by
    simp only [List.cons_append, actOf]
    by_cases h : x.1 = p ∧ x.2.1 = f
    · rw [if_pos h, if_pos h]; rfl
    · rw [if_neg h, if_neg h]; exact actOf_snoc t r p f
theorem actOf_none : ∀ (l : List Rule) (p f : Int), actOf l p f = none ↔ ∀ k (h : k < l.length), ¬ (l[k].1 = p ∧ l[k].2.1 = f)
  | [], p, f => ⟨fun _ k h => by simp at h, fun _ => rfl⟩
  | x :: t, p, f => by
    simp only [actOf]
    by_cases h : x.1 = p ∧ x.2.1 = f
    · rw [if_pos h]
      refine ⟨fun h' => (by cases h'), fun h' => absurd h (h' 0 (by simp))⟩
    · rw [if_neg h, actOf_none t p f]
      refine ⟨fun h' k hk => ?_, fun h' k hk => h' (k + 1) (by simpa using hk)⟩
      cases k with
      | zero => exact h
      | succ k => exact h' k (by simpa using hk)
theorem actOf_drop {l : List Rule} {i : Nat} (h : i < l.length) (p f : Int) : actOf (l.drop i) p f = if l[i].1 = p ∧ l[i].2.1 = f then some l[i].2.2 else actOf (l.drop (i + 1)) p f := by
  rw [List.drop_eq_getElem_cons h]; rfl
theorem actOf_take {l : List Rule} {j : Nat} (h : j < l.length) (p f : Int) : actOf (l.take (j + 1)) p f = (actOf (l.take j) p f).or (if l[j].1 = p ∧ l[j].2.1 = f then some l[j].2.2 else none) := by
  rw [List.take_succ_eq_append_getElem h, actOf_snoc]

/-- of the first j rules none is told twice -/
def NoT (l : List Rule) (j : Nat) : Prop := ∀ i (h : i < l.length), i < j → ∀ k (hk : k < i), ¬ ((l[k]'(by omega)).1 = l[i].1 ∧ (l[k]'(by omega)).2.1 = l[i].2.1)
theorem noT_succ {l : List Rule} {j : Nat} (hj : j < l.length) : NoT l (j + 1) ↔ NoT l j ∧ actOf (l.take j) l[j].1 l[j].2.1 = none := by
  rw [actOf_none]
  constructor
  · intro h
    refine ⟨fun i hi hij => h i hi (by omega), fun k hk => ?_⟩
    have hk' : k < j := by simp at hk; omega
    have := h j hj (by omega) k hk'
    rw [List.getElem_take]
    exact this
  · rintro ⟨h1, h2⟩ i hi hij k hk
    rcases Nat.lt_or_ge i j with h' | h'
    · exact h1 i hi h' k hk
    · obtain rfl : i = j := by omega
      have := h2 k (by simp; omega)
      rw [List.getElem_take] at this
      exact this
theorem rulesR_iff (l : List Rule) : RulesR l ↔ (∀ i (h : i < l.length), ruleR l[i]) ∧ NoT l l.length ∧ l.length ≤ 8 := by
  constructor
  · rintro ⟨h1, h2⟩
    exact ⟨fun i h => (h1 i h h).1, fun i h hi => (h1 i h hi).2, h2⟩
  · rintro ⟨h1, h2, h3⟩
    exact ⟨fun i h hi => ⟨h1 i h, h2 i h hi⟩, h3⟩

/-! ### the map -/
theorem laidT : laidOutB Tryz.prog = true := by kernel_rfl
theorem rowT : (179 : TypeId) < Tryz.prog.types.size := of_decide_eq_true (by kernel_rfl)
theorem wideT : (match Tryz.prog.underlying 179 with | some (.array _ _) | some (.struct _) => true | _ => false) = true := by rw [Tryz.underlying179]
set_option maxRecDepth 100000 in
theorem lawT : Keyed Tryz.prog 179 := Keyed.of_law (deep_law_laid laidT (m := 2) (by omega) rowT (by kernel_rfl) wideT)
theorem keyTyT : Tryz.prog.keyType 179 = true := by kernel_rfl
theorem cellsT : Tryz.prog.cellsOf 179 = 2 := by kernel_rfl
theorem formedT (c0 c1 : Value) : (Value.agg #[c0, c1]).formed Tryz.prog 179 = true := by simp [Value.formed, Tryz.underlying179, cellsT]
theorem zeroT (w : World) : (zeroValue 3).run Tryz.prog w = .ok (.int .i64 0) w := by kernel_rfl
/-- what a key reads as -/
def klT (p f : Int) : Lit := .string (keyBytes [.int .i64 p, .int .i64 f])
theorem keyT {p f : Int} (hp : wfI p) (hf : wfI f) : keyOf Tryz.prog 179 (.agg #[.int .i64 p, .int .i64 f]) = some (klT p f) := by
  unfold wfI at hp hf
  obtain ⟨m, hm⟩ : ∃ m, Tryz.prog.types.size + 1 = m + 2 := ⟨Tryz.prog.types.size - 1, by have h0 : 0 < Tryz.prog.types.size := Nat.lt_of_le_of_lt (Nat.zero_le _) rowT; omega⟩
  unfold keyOf
  rw [Tryz.underlying179]
  simp only [keyTyT, formedT, Bool.and_self, if_true, hm]
  simp [Program.keyLits, Tryz.underlying179, cellsT, Value.cells, Tryz.underlying3, cells3, hp, hf, klT]
theorem klT_inj {p f q g : Int} (hp : wfI p) (hf : wfI f) (hq : wfI q) (hg : wfI g) (h : klT p f = klT q g) : p = q ∧ f = g := by
  have h2 := keyT hq hg
  rw [← h] at h2
  have := lawT.inj (keyT hp hf) h2
  simpa using this
theorem klT_key (p f : Int) : WideAt.IsKeyLit (klT p f) := trivial

/-- the map D keeps what the first j rules tell -/
def ActsD (D : DataW Unit) (l : List Rule) (j : Nat) : Prop :=
  (∀ p f, wfI p → wfI f → Maps.has D (klT p f) = (actOf (l.take j) p f).isSome ∧ ∀ x, actOf (l.take j) p f = some x → D.atKey (klT p f) (.lit (.int .i64 0)) = .lit (.int .i64 x)) ∧
  Maps.size D ≤ j ∧ (Maps.size D = j ↔ NoT l j)
theorem actsD_zero (l : List Rule) : ActsD (.map []) l 0 :=
  ⟨fun p f _ _ => ⟨rfl, fun x h => by simp [actOf] at h⟩, Nat.le_refl _, ⟨fun _ i h hi => by omega, fun _ => rfl⟩⟩
theorem actsD_old {D : DataW Unit} {l : List Rule} {j : Nat} (h : ActsD D l j) (hw : WfU l) (hj : j < l.length) (hh : Maps.has D (klT l[j].1 l[j].2.1) = true) : ActsD D l (j + 1) := by
  obtain ⟨h1, h2, h3⟩ := h
  obtain ⟨w1, w2, w3⟩ := hw j hj
  have h4 := (h1 _ _ w1 w2).1
  rw [hh] at h4
  refine ⟨fun p f wp wf => ?_, by omega, ⟨fun e => by omega, fun e => ?_⟩⟩
  · have h5 := h1 p f wp wf
    rw [actOf_take hj]
    by_cases hc : l[j].1 = p ∧ l[j].2.1 = f
    · obtain ⟨rfl, rfl⟩ := hc
      cases ha : actOf (l.take j) l[j].1 l[j].2.1 with
      | none => rw [ha] at h4; cases h4
      | some x => rw [ha] at h5; exact h5
    · rw [if_neg hc, Option.or_none]; exact h5
  · rw [noT_succ hj] at e
    rw [e.2] at h4
    cases h4
theorem actsD_new {D : DataW Unit} {l : List Rule} {j : Nat} (h : ActsD D l j) (ht : Tidy D) (hw : WfU l) (hj : j < l.length) (hh : Maps.has D (klT l[j].1 l[j].2.1) = false) : ActsD (D.put (klT l[j].1 l[j].2.1) (.lit (.int .i64 l[j].2.2))) l (j + 1) := by
  obtain ⟨h1, h2, h3⟩ := h
  obtain ⟨w1, w2, w3⟩ := hw j hj
  have h4 := (h1 _ _ w1 w2).1
  rw [hh] at h4
  have ha : actOf (l.take j) l[j].1 l[j].2.1 = none := by
    cases hx : actOf (l.take j) l[j].1 l[j].2.1 with
    | none => rfl
    | some x => rw [hx] at h4; cases h4
  have hs : Maps.size (D.put (klT l[j].1 l[j].2.1) (.lit (.int .i64 l[j].2.2))) = Maps.size D + 1 := by
    rw [Maps.size_put ht, hh]; rfl
  refine ⟨fun p f wp wf => ?_, by omega, ?_⟩
  · rw [actOf_take hj]
    by_cases hc : l[j].1 = p ∧ l[j].2.1 = f
    · obtain ⟨rfl, rfl⟩ := hc
      rw [ha, if_pos ⟨rfl, rfl⟩, Maps.has_put_same ht.isMap (klT_key _ _)]
      refine ⟨rfl, fun x hx => ?_⟩
      rw [Maps.atKey_put_same ht.isMap (klT_key _ _)]
      simp at hx
      rw [hx]
    · have hne : klT p f ≠ klT l[j].1 l[j].2.1 := fun e => by
        obtain ⟨e1, e2⟩ := klT_inj wp wf w1 w2 e
        exact hc ⟨e1.symm, e2.symm⟩
      rw [if_neg hc, Option.or_none, Maps.has_put_other hne, Maps.atKey_put_other hne]
      exact h1 p f wp wf
  · rw [noT_succ hj, hs]
    exact ⟨fun e => ⟨h3.1 (by omega), ha⟩, fun e => by have := h3.2 e.1; omega⟩
/-- block M of w is such a map of all n rules -/
def MapA (w : World) (M n : Nat) (D : DataW Unit) : Prop := w.ownsMap Tryz.prog 179 (plainElem Tryz.prog 3) M n D
theorem MapA.on {w w' : World} {M n : Nat} {D : DataW Unit} (h : MapA w M n D) (hb : Below w.heap.size w w') : MapA w' M n D := by
  have hlt := World.ownsMap.lt h
  obtain ⟨es, clock, h1, r⟩ := h
  exact ⟨es, clock, (hb.block M hlt).trans h1, r⟩
end Go.Proofs.YtadbekhekggpkaaGreatDoor

namespace Go.Proofs.YtadbekhekggpkaaGreatDoor
open Go.RowKit Go.PlainAid Go.Maps
set_option linter.unusedVariables false

set_option maxRecDepth 100000 in
set_option maxHeartbeats 2000000 in
theorem actsI (a : Option Addr) (l : List Rule) (n cap : Nat) (hl : l.length = n) (hn : n ≤ 1048576) (hw : WfU l) (w : World) (hr : RdU w a l) :
    Calls Tryz.prog 109 #[.slice a n cap] w fun e w' => ∃ (M : Nat) (D : DataW Unit), e = .returned (.map (some M)) ∧ MapA w' M n D ∧ ActsD D l n ∧ Below w.heap.size w w' := by
  have HL : Hid (l.length = n) := hl
  have HWF : Hid (WfU l) := hw
  have hmm := @run_makeMap Tryz.prog
  have HO0 : Hid (MapA (w.alloc (.map #[] 0)) w.heap.size 0 (.map [])) := World.ownsMap_made _ _ _ _
  have HB0 : Hid (Below w.heap.size w (w.alloc (.map #[] 0))) := (Below.refl _ _).alloc (Nat.le_refl _) _
  clear hl hw
  by_cases hp : 0 < n
  · obtain ⟨g, off, rfl, hc⟩ := hr (by have := HL.out; omega)
    have HC : Hid (∀ j (h : j < l.length), w.cell? ⟨g, off + j * 3, none⟩ = some (.int .i64 l[j].1) ∧ w.cell? ⟨g, off + j * 3 + 1, none⟩ = some (.int .i64 l[j].2.1) ∧ w.cell? ⟨g, off + j * 3 + 2, none⟩ = some (.int .i64 l[j].2.2)) := hc
    have hgl : g < w.heap.size := World.block_lt_of_cell? w ⟨g, off + 0 * 3, none⟩ (hc 0 (by have := HL.out; omega)).1
    clear hr hc
    go_enter Tryz.func109, Tryz.ntmps109
    go_wp2
    go_loopg [12] n (fun gk i wr => ∃ (j : Nat) (D : DataW Unit), j + gk = n ∧ i = .int .i64 j ∧ Hid (MapA wr w.heap.size j D) ∧ Hid (ActsD D l j) ∧ Hid (Below w.heap.size w wr))
    case atStart => exact ⟨0, .map [], by omega, rfl, HO0, actsD_zero l, HB0⟩
    case round =>
      clear HO0 HB0 hmm
      obtain ⟨j, D, hj, rfl, HO, HA, HW⟩ := hrel
      by_cases hlt : j < n
      · have hjl : j < l.length := by have := HL.out; omega
        have c0 := HC.out j hjl
        have c1 := (HW.out.cell (p := ⟨g, off + j * 3, none⟩) hgl).trans c0.1
        have c2 := (HW.out.cell (p := ⟨g, off + j * 3 + 1, none⟩) hgl).trans c0.2.1
        have c3 := (HW.out.cell (p := ⟨g, off + j * 3 + 2, none⟩) hgl).trans c0.2.2
        clear c0
        obtain ⟨f, hf⟩ : ∃ f, l[j].1 = f := ⟨_, rfl⟩
        obtain ⟨s, hs⟩ : ∃ s, l[j].2.1 = s := ⟨_, rfl⟩
        obtain ⟨t, ht⟩ : ∃ t, l[j].2.2 = t := ⟨_, rfl⟩
        have hwf := HWF.out j hjl
        rw [hf, hs, ht] at hwf
        rw [hf] at c1
        rw [hs] at c2
        rw [ht] at c3
        have HF : Hid (l[j].1 = f ∧ l[j].2.1 = s ∧ l[j].2.2 = t) := ⟨hf, hs, ht⟩
        clear hf hs ht
        obtain ⟨w1, w2, w3⟩ := hwf
        have hkey := keyT w1 w2
        have hval := plainElem_int (H := Unit) Tryz.underlying3 w3
        have hms := HW.out.size
        have HMX : Hid (MapA ((wr.alloc (.cells #[.int .i64 f, .int .i64 s, .int .i64 t] 54)).alloc (.cells #[.int .i64 f, .int .i64 s] 179)) w.heap.size j D) := (HO.out.alloc _).alloc _
        have HWX : Hid (Below w.heap.size w ((wr.alloc (.cells #[.int .i64 f, .int .i64 s, .int .i64 t] 54)).alloc (.cells #[.int .i64 f, .int .i64 s] 179))) := (HW.out.alloc HW.out.size _).alloc (by simp; omega) _
        have htd : Tidy D := World.ownsMap.tidy HO.out lawT
        clear HO HW w1 w2 w3
        have hown : World.ownsMap ((wr.alloc (.cells #[.int .i64 f, .int .i64 s, .int .i64 t] 54)).alloc (.cells #[.int .i64 f, .int .i64 s] 179)) Tryz.prog 179 (plainElem Tryz.prog 3) w.heap.size j D := HMX.out
        obtain ⟨hb, hhas⟩ : ∃ b, Maps.has D (klT f s) = b := ⟨_, rfl⟩
        cases hb
        · have HA' : Hid (ActsD (D.put (klT f s) (.lit (.int .i64 t))) l (j + 1)) := by
            have h := actsD_new HA.out htd HWF.out hjl (by rw [HF.out.1, HF.out.2.1]; exact hhas)
            rw [HF.out.1, HF.out.2.1, HF.out.2.2] at h
            exact h
          clear HA htd HF HMX
          go_wp2_with (first | (at_lookup; refine wpList_lookup_own_ok_int _ rfl _ _ 169 rfl 179 3 .i64 lawT Tryz.underlying169 Tryz.underlying3 (zeroT _) w.heap.size j D rfl hown _ _ rfl hkey ?_; intro c hat hwc; clear hat hwc) | (at_mapUpdate; refine wpList_mapUpdate_own _ rfl _ _ _ 169 rfl 179 3 lawT Tryz.underlying169 _ w.heap.size j D rfl hown (by unfold maxLen; omega) _ _ _ rfl rfl hkey _ [] hval ?_) | go_in)
          intro w3 hown3 hgrow3
          have HO3 : Hid (MapA w3 w.heap.size (j + 1) (D.put (klT f s) (.lit (.int .i64 t)))) := hown3
          have HW3 : Hid (Below w.heap.size w w3) := HWX.out.grown hgrow3 HWX.out.size (fun k hk => by cases hk; exact Nat.le_refl _)
          clear hown hown3 hgrow3 HWX hkey hval hhas c1 c2 c3
          go_wp2
          go_roundg (gk - 1)
          case measure => omega
          case rel => exact ⟨j + 1, _, by omega, by go_num, HO3, HA', HW3⟩
        · have HA' : Hid (ActsD D l (j + 1)) := actsD_old HA.out HWF.out hjl (by rw [HF.out.1, HF.out.2.1]; exact hhas)
          have HO3 : Hid (MapA ((wr.alloc (.cells #[.int .i64 f, .int .i64 s, .int .i64 t] 54)).alloc (.cells #[.int .i64 f, .int .i64 s] 179)) w.heap.size (j + 1) D) := World.ownsMap.mono HMX.out (Nat.le_succ _)
          clear HA htd HF HMX
          go_wp2_with (first | (at_lookup; refine wpList_lookup_own_ok_int _ rfl _ _ 169 rfl 179 3 .i64 lawT Tryz.underlying169 Tryz.underlying3 (zeroT _) w.heap.size j D rfl hown _ _ rfl hkey ?_; intro c hat hwc; clear hat hwc) | go_in)
          clear hown hkey hval hhas c1 c2 c3
          go_roundg (gk - 1)
          case measure => omega
          case rel => exact ⟨j + 1, D, by omega, by go_num, HO3, HA', HWX⟩
      · obtain rfl : j = n := by omega
        go_wp2
        go_ret
        exact ⟨_, D, rfl, HO.out, HA.out, HW.out⟩
  · obtain rfl : n = 0 := by omega
    clear hr hp
    go_enter Tryz.func109, Tryz.ntmps109
    go_wp2
    go_rounds 1
    go_ret
    exact ⟨_, .map [], rfl, HO0.out, actsD_zero l, HB0.out⟩

theorem partU (n : Int) (b : Bool) (hb : decide (1 ≤ n ∧ n ≤ 4) = b) (w : World) : Calls Tryz.prog 105 #[.int .i64 n] w fun e w' => e = .returned (.bool b) ∧ Below w.heap.size w w' := by
  go_enter Tryz.func105, Tryz.ntmps105
  go_wp2_with fail
  refine (holdsI 1 4 n b hb _).mono ?_
  rintro e w1 ⟨rfl, hb1⟩
  go_wp2
  go_ret
  exact ⟨rfl, hb1⟩
theorem faultU (n : Int) (b : Bool) (hb : decide (n = 1 ∨ n = 2) = b) (w : World) : Calls Tryz.prog 116 #[.int .i64 n] w fun e w' => e = .returned (.bool b) ∧ w' = w := by
  by_cases h1 : n = 1
  · subst h1
    subst hb
    go_enter Tryz.func116, Tryz.ntmps116
    go_wp2
    go_ret
    exact ⟨rfl, rfl⟩
  · have q1 : (n == 1) = false := by simpa using h1
    obtain ⟨c, hc⟩ : ∃ c, (n == 2) = c := ⟨_, rfl⟩
    have HB : Hid (c = b) := by
      show c = b
      rw [← hb, ← hc, Bool.eq_iff_iff, decide_eq_true_iff, beq_iff_eq]
      exact ⟨fun h => .inr h, fun h => h.resolve_left h1⟩
    clear hb h1
    go_enter Tryz.func116, Tryz.ntmps116
    go_wp2
    go_ret
    exact ⟨by rw [HB.out]; rfl, rfl⟩
set_option maxRecDepth 100000 in
set_option maxHeartbeats 1000000 in
theorem ruleI (x y z : Int) (b : Bool) (hb : b = true ↔ ruleR (x, y, z)) (w : World) : Calls Tryz.prog 108 #[.agg #[.int .i64 x, .int .i64 y, .int .i64 z]] w fun e w' => e = .returned (.bool b) ∧ Below w.heap.size w w' := by
  have HX0 : Hid ((w.alloc (.cells #[.int .i64 x, .int .i64 y, .int .i64 z] 54)).heap[w.heap.size]? = some (.cells #[.int .i64 x, .int .i64 y, .int .i64 z] 54)) := heap_new w _
  have HW0 : Hid (Below w.heap.size w (w.alloc (.cells #[.int .i64 x, .int .i64 y, .int .i64 z] 54))) := (Below.refl _ _).alloc (Nat.le_refl _) _
  by_cases hx : 1 ≤ x ∧ x ≤ 4
  · have hd1 : decide ((1 : Int) ≤ x ∧ x ≤ 4) = true := decide_eq_true hx
    by_cases hy1 : y = 1
    · subst hy1
      have HB : Hid (decide ((1 : Int) ≤ z ∧ z ≤ 4) = b) := by
        show _ = b
        rw [Bool.eq_iff_iff, hb, decide_eq_true_iff]
        unfold ruleR
        constructor
        · intro h; exact ⟨hx, ⟨by show (1 : Int) ≤ 1; omega, by show (1 : Int) ≤ 2; omega⟩, ⟨by show (0 : Int) ≤ z; omega, h.2⟩, fun h' => by have h5 : z = 0 := h'.2; omega⟩
        · intro h
          obtain ⟨_, _, h3, h4⟩ := h
          simp at h3 h4
          exact ⟨by omega, h3.2⟩
      clear hb hx
      go_enter Tryz.func108, Tryz.ntmps108
      go_wp2_with fail
      refine (partU x true hd1 _).mono ?_
      rintro e w1 ⟨rfl, hb1⟩
      have k1 := row3_cells (row_on HX0.out hb1)
      have HW1 : Hid (Below w.heap.size w w1) := bel_on (Nat.le_refl _) HW0.out hb1
      clear hb1 HX0 HW0 hd1
      go_wp2_with fail
      refine (faultU 1 true rfl _).mono ?_
      rintro e w2 ⟨rfl, rfl⟩
      go_wp2_with fail
      refine (holdsI 1 4 z b HB.out _).mono ?_
      rintro e w3 ⟨rfl, hb3⟩
      have HW3 : Hid (Below w.heap.size w w3) := bel_on (Nat.le_refl _) HW1.out hb3
      clear hb3 HW1 k1
      go_wp2
      go_ret
      exact ⟨rfl, HW3.out⟩
    · by_cases hy2 : y = 2
      · subst hy2
        have HB : Hid (decide ((0 : Int) ≤ z ∧ z ≤ 4) = b) := by
          show _ = b
          rw [Bool.eq_iff_iff, hb, decide_eq_true_iff]
          unfold ruleR
          constructor
          · intro h; exact ⟨hx, ⟨by show (1 : Int) ≤ 2; omega, by show (2 : Int) ≤ 2; omega⟩, h, fun h' => by have h5 : (2 : Int) = 1 := h'.1; omega⟩
          · intro h; exact h.2.2.1
        clear hb hx hy1
        go_enter Tryz.func108, Tryz.ntmps108
        go_wp2_with fail
        refine (partU x true hd1 _).mono ?_
        rintro e w1 ⟨rfl, hb1⟩
        have k1 := row3_cells (row_on HX0.out hb1)
        have HW1 : Hid (Below w.heap.size w w1) := bel_on (Nat.le_refl _) HW0.out hb1
        clear hb1 HX0 HW0 hd1
        go_wp2_with fail
        refine (faultU 2 true rfl _).mono ?_
        rintro e w2 ⟨rfl, rfl⟩
        go_wp2_with fail
        refine (holdsI 0 4 z b HB.out _).mono ?_
        rintro e w3 ⟨rfl, hb3⟩
        have HW3 : Hid (Below w.heap.size w w3) := bel_on (Nat.le_refl _) HW1.out hb3
        clear hb3 HW1 k1
        go_wp2
        go_ret
        exact ⟨rfl, HW3.out⟩
      · have HB : Hid (b = false) := by
          show b = false
          cases b
          · rfl
          · have := (hb.1 rfl).2.1
            simp at this
            omega
        have hd2 : decide (y = 1 ∨ y = 2) = false := decide_eq_false (by omega)
        have q1 : (y == 1) = false := by simpa using hy1
        clear hb hx hy1 hy2
        go_enter Tryz.func108, Tryz.ntmps108
        go_wp2_with fail
        refine (partU x true hd1 _).mono ?_
        rintro e w1 ⟨rfl, hb1⟩
        have k1 := row3_cells (row_on HX0.out hb1)
        have HW1 : Hid (Below w.heap.size w w1) := bel_on (Nat.le_refl _) HW0.out hb1
        clear hb1 HX0 HW0 hd1
        go_wp2_with fail
        refine (faultU y false hd2 _).mono ?_
        rintro e w2 ⟨rfl, rfl⟩
        clear hd2
        go_wp2
        go_ret
        exact ⟨by rw [HB.out]; rfl, HW1.out⟩
  · have HB : Hid (b = false) := by
      show b = false
      cases b
      · rfl
      · exact absurd (hb.1 rfl).1 hx
    have hd1 : decide ((1 : Int) ≤ x ∧ x ≤ 4) = false := decide_eq_false hx
    clear hb hx
    obtain ⟨q, hq⟩ : ∃ q, (y == 1) = q := ⟨_, rfl⟩
    cases q
    all_goals
      go_enter Tryz.func108, Tryz.ntmps108
      go_wp2_with fail
      refine (partU x false hd1 _).mono ?_
      rintro e w1 ⟨rfl, hb1⟩
      have HW1 : Hid (Below w.heap.size w w1) := bel_on (Nat.le_refl _) HW0.out hb1
      clear hb1 HX0 HW0 hd1
      go_wp2
      go_ret
      exact ⟨by rw [HB.out]; rfl, HW1.out⟩

set_option maxRecDepth 100000 in
set_option maxHeartbeats 2000000 in
theorem rulesI (a : Option Addr) (l : List Rule) (n cap : Nat) (b : Bool) (hl : l.length = n) (hn : n ≤ 1048576) (hwf : WfU l) (hb : b = true ↔ RulesR l) (w : World) (hr : RdU w a l) :
    Calls Tryz.prog 67 #[.slice a n cap] w fun e w' => e = .returned (.bool b) ∧ Below w.heap.size w w' := by
  have HB : Hid (b = true ↔ RulesR l) := hb
  have HL : Hid (l.length = n) := hl
  have HWF : Hid (WfU l) := hwf
  clear hb hl hwf
  by_cases h8 : n ≤ 8
  · have hR : Hid (RdU w a l) := hr
    by_cases hp : 0 < n
    · obtain ⟨g, off, rfl, hc⟩ := hr (by have := HL.out; omega)
      have HC : Hid (∀ j (h : j < l.length), w.cell? ⟨g, off + j * 3, none⟩ = some (.int .i64 l[j].1) ∧ w.cell? ⟨g, off + j * 3 + 1, none⟩ = some (.int .i64 l[j].2.1) ∧ w.cell? ⟨g, off + j * 3 + 2, none⟩ = some (.int .i64 l[j].2.2)) := hc
      have hgl : g < w.heap.size := World.block_lt_of_cell? w ⟨g, off + 0 * 3, none⟩ (hc 0 (by have := HL.out; omega)).1
      clear hr hc
      go_enter Tryz.func67, Tryz.ntmps67
      go_wp2
      go_loopg [10] n (fun gk i wr => ∃ j : Nat, j + gk = n ∧ i = .int .i64 j ∧ Hid (∀ i (h : i < l.length), i < j → ruleR l[i]) ∧ Hid (Below w.heap.size w wr))
      case atStart => exact ⟨0, by omega, rfl, fun i _ h => by omega, Below.refl _ _⟩
      case round =>
        obtain ⟨j, hj, rfl, HI, HW⟩ := hrel
        by_cases hlt : j < n
        · have hjl : j < l.length := by have := HL.out; omega
          have c0 := HC.out j hjl
          have c1 := (HW.out.cell (p := ⟨g, off + j * 3, none⟩) hgl).trans c0.1
          have c2 := (HW.out.cell (p := ⟨g, off + j * 3 + 1, none⟩) hgl).trans c0.2.1
          have c3 := (HW.out.cell (p := ⟨g, off + j * 3 + 2, none⟩) hgl).trans c0.2.2
          clear c0
          obtain ⟨f, hf⟩ : ∃ f, l[j].1 = f := ⟨_, rfl⟩
          obtain ⟨s, hs⟩ : ∃ s, l[j].2.1 = s := ⟨_, rfl⟩
          obtain ⟨t, ht⟩ : ∃ t, l[j].2.2 = t := ⟨_, rfl⟩
          rw [hf] at c1
          rw [hs] at c2
          rw [ht] at c3
          have HF : Hid (l[j] = (f, s, t)) := by rw [← hf, ← hs, ← ht]; rfl
          clear hf hs ht
          have HWX : Hid (Below w.heap.size w (wr.alloc (.cells #[.int .i64 f, .int .i64 s, .int .i64 t] 54))) := HW.out.alloc HW.out.size _
          clear HW
          by_cases hR1 : ruleR (f, s, t)
          · have HI' : Hid (∀ i (h : i < l.length), i < j + 1 → ruleR l[i]) := fun i h hi => by
              rcases Nat.lt_or_ge i j with h' | h'
              · exact HI.out i h h'
              · obtain rfl : i = j := by omega
                rw [HF.out]; exact hR1
            have HB1 : Hid (ruleR (f, s, t)) := hR1
            clear HI hR1
            go_wp2_with fail
            refine (ruleI f s t true ⟨(fun _ => HB1.out), (fun _ => rfl)⟩ _).mono ?_
            rintro e w1 ⟨rfl, hb1⟩
            have HW1 : Hid (Below w.heap.size w w1) := bel_on (Nat.le_refl _) HWX.out hb1
            clear hb1 HB1 HWX c1 c2 c3
            go_wp2
            go_roundg (gk - 1)
            case measure => omega
            case rel => exact ⟨j + 1, by omega, by go_num, HI', HW1⟩
          · have HE : Hid (b = false) := rules_not HB.out j hjl (by rw [HF.out]; exact hR1)
            have HB1 : Hid (false = true ↔ ruleR (f, s, t)) := ⟨(fun h => by cases h), (fun h => absurd h hR1)⟩
            clear HI hR1
            go_wp2_with fail
            refine (ruleI f s t false HB1.out _).mono ?_
            rintro e w1 ⟨rfl, hb1⟩
            have HW1 : Hid (Below w.heap.size w w1) := bel_on (Nat.le_refl _) HWX.out hb1
            clear hb1 HB1 HWX c1 c2 c3
            go_wp2
            go_ret
            exact ⟨by rw [HE.out]; rfl, HW1.out⟩
        · have HALL : Hid (∀ i (h : i < l.length), ruleR l[i]) := fun i h => HI.out i h (by have := HL.out; omega)
          have HR1 : Hid (RdU wr (some ⟨g, off, none⟩) l) := hR.out.on HW.out
          clear HI hR
          go_wp2_with fail
          refine (actsI (some ⟨g, off, none⟩) l n cap HL.out hn HWF.out _ HR1.out).mono ?_
          rintro e w2 ⟨M, D, rfl, hM, hA, hb2⟩
          have HW2 : Hid (Below w.heap.size w w2) := bel_on (Nat.le_refl _) HW.out hb2
          have HQ : Hid (((Maps.size D : Int) == (n : Int)) = b) := by
            show _ = b
            have e := HL.out
            rw [Bool.eq_iff_iff, beq_iff_eq, HB.out, rulesR_iff]
            have h3 := hA.2.2
            constructor
            · intro h; exact ⟨HALL.out, by rw [e]; exact h3.1 (by omega), by omega⟩
            · intro h
              have h5 := h.2.1
              rw [e] at h5
              have := h3.2 h5
              omega
          have hown : World.ownsMap w2 Tryz.prog 179 (plainElem Tryz.prog 3) M n D := hM
          clear hM hA hb2 HW HR1 HALL
          go_wp2_with (first | (at_len; refine wpList_len_own _ rfl _ 169 rfl 179 3 Tryz.underlying169 _ M n D rfl hown ?_) | go_in)
          go_ret
          exact ⟨by rw [HQ.out]; rfl, HW2.out⟩
    · obtain rfl : n = 0 := by omega
      clear hp hr
      go_enter Tryz.func67, Tryz.ntmps67
      go_wp2
      refine wp_loop_rounds 1 ?_
      rw [rounds_succ]
      go_wp2_with fail
      refine (actsI a l 0 cap HL.out hn HWF.out _ hR.out).mono ?_
      rintro e w2 ⟨M, D, rfl, hM, hA, hb2⟩
      have HW2 : Hid (Below w.heap.size w w2) := hb2
      have HE : Hid (b = true) := HB.out.2 ((rulesR_iff l).2 ⟨fun i h => by have := HL.out; omega, fun i h => by have := HL.out; omega, by have := HL.out; omega⟩)
      have hs0 : Maps.size D = 0 := by have := hA.2.1; omega
      have hown : World.ownsMap w2 Tryz.prog 179 (plainElem Tryz.prog 3) M 0 D := hM
      clear hM hA hb2
      go_wp2_with (first | (at_len; refine wpList_len_own _ rfl _ 169 rfl 179 3 Tryz.underlying169 _ M 0 D rfl hown ?_) | go_in)
      go_ret
      exact ⟨by rw [HE.out]; rfl, HW2.out⟩
  · have HE : Hid (b = false) := rules_no HB.out (fun h => by have := h.2; have := HL.out; omega)
    clear hr
    go_enter Tryz.func67, Tryz.ntmps67
    go_wp2
    go_ret
    exact ⟨by rw [HE.out]; rfl, Below.refl _ _⟩

end Go.Proofs.YtadbekhekggpkaaGreatDoor

namespace Go.Proofs.YtadbekhekggpkaaGreatDoor
open Go.RowKit Go.PlainAid
set_option linter.unusedVariables false

set_option maxRecDepth 100000 in
set_option maxHeartbeats 2000000 in
theorem portsI (a : Option Addr) (X : SX) (n cap : Nat) (b : Bool) (hl : X.O.length = n) (hn : n ≤ 1048576) (hb : b = true ↔ PortsX X) (w : World) (hr : RdO w a X.O) :
    Calls Tryz.prog 66 #[.slice a n cap] w fun e w' => e = .returned (.bool b) ∧ Below w.heap.size w w' := by
  have HB : Hid (b = true ↔ PortsX X) := hb
  have HL : Hid (X.O.length = n) := hl
  have HR : Hid (RdO w a X.O) := hr
  clear hb hl hr
  by_cases h6 : 6 < n
  · have HE : Hid (b = false) := by
      cases b
      · rfl
      · have := (HB.out.1 rfl).1
        have := HL.out
        omega
    go_enter Tryz.func66, Tryz.ntmps66
    go_wp2
    go_ret
    exact ⟨by rw [HE.out]; rfl, Below.refl _ _⟩
  · have HB0 : Hid (Below w.heap.size w w) := Below.refl _ _
    go_enter Tryz.func66, Tryz.ntmps66
    go_wp2
    go_loopg [10] n (fun gk i wr => ∃ j : Nat, j + gk = n ∧ i = .int .i64 j ∧ Hid (∀ i (h : i < X.O.length), i < j → prtR X.O[i]) ∧ Hid (Below w.heap.size w wr))
    case atStart => exact ⟨0, by omega, rfl, fun i _ h => by omega, HB0⟩
    case round =>
      clear HB0
      obtain ⟨j, hj, rfl, HI, HW⟩ := hrel
      by_cases hlt : j < n
      · have hjl : j < X.O.length := by have := HL.out; omega
        obtain ⟨g, off, ha, hc⟩ := HR.out (by omega)
        have hgl : g < w.heap.size := World.block_lt_of_cell? w ⟨g, off + j * 5, none⟩ (hc j hjl).1
        subst ha
        have cc := hc j hjl
        have cf0 := (HW.out.cell (p := ⟨g, off + j * 5, none⟩) hgl).trans cc.1
        have cf1 := (HW.out.cell (p := ⟨g, off + j * 5 + 1, none⟩) hgl).trans cc.2.1
        have cf2 := (HW.out.cell (p := ⟨g, off + j * 5 + 2, none⟩) hgl).trans cc.2.2.1
        have cf3 := (HW.out.cell (p := ⟨g, off + j * 5 + 3, none⟩) hgl).trans cc.2.2.2.1
        have cf4 := (HW.out.cell (p := ⟨g, off + j * 5 + 4, none⟩) hgl).trans cc.2.2.2.2
        clear hc cc
        obtain ⟨x0, e0⟩ : ∃ x, (X.O[j]).1 = x := ⟨_, rfl⟩
        obtain ⟨x1, e1⟩ : ∃ x, (X.O[j]).2.1 = x := ⟨_, rfl⟩
        obtain ⟨x2, e2⟩ : ∃ x, (X.O[j]).2.2.1 = x := ⟨_, rfl⟩
        obtain ⟨x3, e3⟩ : ∃ x, (X.O[j]).2.2.2.1 = x := ⟨_, rfl⟩
        obtain ⟨x4, e4⟩ : ∃ x, (X.O[j]).2.2.2.2 = x := ⟨_, rfl⟩
        rw [e0] at cf0
        rw [e1] at cf1
        rw [e2] at cf2
        rw [e3] at cf3
        rw [e4] at cf4
        have HF : Hid (prtR X.O[j] ↔ P.PortR x0 x1 x2 x3 x4) := by
          show _ ↔ _
          unfold prtR
          rw [e0, e1, e2, e3, e4]
        clear e0 e1 e2 e3 e4
        obtain ⟨pb, hpb⟩ := P.port_bool x0 x1 x2 x3 x4
        have HPB : Hid (pb = true ↔ P.PortR x0 x1 x2 x3 x4) := hpb
        clear hpb
        have HWX : Hid (Below w.heap.size w (wr.alloc (.cells #[.int .i64 x0, .int .i64 x1, .int .i64 x2, .int .i64 x3, .int .i64 x4] 52))) := HW.out.alloc HW.out.size _
        go_wp2_with fail
        refine (P.portokI x0 x1 x2 x3 x4 pb HPB.out _).mono ?_
        rintro e w3 ⟨rfl, hb⟩
        have HB3 : Hid (Below w.heap.size w w3) := bel_on (Nat.le_refl _) HWX.out hb
        clear hb HW HWX cf0 cf1 cf2 cf3 cf4
        cases pb
        · have HE : Hid (b = false) := by
            cases b
            · rfl
            · have := HPB.out.2 (HF.out.1 ((HB.out.1 rfl).2 j hjl))
              cases this
          clear HI
          go_wp2
          go_ret
          exact ⟨by rw [HE.out]; rfl, HB3.out⟩
        · have HI' : Hid (∀ i (h : i < X.O.length), i < j + 1 → prtR X.O[i]) := fun i h hi => by
            rcases Nat.lt_or_ge i j with h' | h'
            · exact HI.out i h h'
            · obtain rfl : i = j := by omega
              exact HF.out.2 (HPB.out.1 (by first | rfl | trivial))
          clear HI
          go_wp2
          go_roundg (gk - 1)
          case measure => omega
          case rel => exact ⟨j + 1, by omega, by go_num, HI', HB3⟩
      · have HE : Hid (b = true) := HB.out.2 ⟨by have := HL.out; omega, fun i h => HI.out i h (by have := HL.out; omega)⟩
        clear HI
        go_wp2
        go_ret
        exact ⟨by rw [HE.out]; rfl, HW.out⟩

set_option maxRecDepth 100000 in
set_option maxHeartbeats 2000000 in
theorem codesI (a : Option Addr) (l : List ByteArray) (n cap : Nat) (b : Bool) (hl : l.length = n) (hn : n ≤ 1048576) (hsz : ∀ j (hj : j < l.length), (l[j]).size ≤ 1048576) (hb : b = true ↔ ∀ i (h : i < l.length), I.RcOk l[i]) (w : World) (hr : S.RdS w a l) :
    Calls Tryz.prog 68 #[.slice a n cap] w fun e w' => e = .returned (.bool b) ∧ Below w.heap.size w w' := by
  have HB : Hid (b = true ↔ ∀ i (h : i < l.length), I.RcOk l[i]) := hb
  have HL : Hid (l.length = n) := hl
  have HR : Hid (S.RdS w a l) := hr
  have HSZ : Hid (∀ j (hj : j < l.length), (l[j]).size ≤ 1048576) := hsz
  have HB0 : Hid (Below w.heap.size w w) := Below.refl _ _
  clear hb hl hr hsz
  go_enter Tryz.func68, Tryz.ntmps68
  go_wp2
  go_loopg [9] n (fun gk i wr => ∃ j : Nat, j + gk = n ∧ i = .int .i64 j ∧ Hid (∀ i (h : i < l.length), i < j → I.RcOk l[i]) ∧ Hid (Below w.heap.size w wr))
  case atStart => exact ⟨0, by omega, rfl, fun i _ h => by omega, HB0⟩
  case round =>
    clear HB0
    obtain ⟨j, hj, rfl, HI, HW⟩ := hrel
    by_cases hlt : j < n
    · have hjl : j < l.length := by have := HL.out; omega
      obtain ⟨g, off, ha, hc⟩ := HR.out (by omega)
      have hgl : g < w.heap.size := World.block_lt_of_cell? w ⟨g, off + j, none⟩ (hc j hjl)
      subst ha
      have cf0 := (HW.out.cell (p := ⟨g, off + j, none⟩) hgl).trans (hc j hjl)
      have hs := HSZ.out j hjl
      clear hc
      obtain ⟨x, hx⟩ : ∃ x, l[j] = x := ⟨_, rfl⟩
      rw [hx] at cf0 hs
      have HF : Hid (l[j] = x) := hx
      clear hx
      obtain ⟨cb, hcb⟩ := I.rc_bool x
      have HCB : Hid (cb = true ↔ I.RcOk x) := hcb
      clear hcb
      go_wp2_with fail
      refine (I.readcodeI x hs cb HCB.out _).mono ?_
      rintro e w5 ⟨cv, rfl, _, hb⟩
      have HB5 : Hid (Below w.heap.size w w5) := bel_on (Nat.le_refl _) HW.out hb
      clear hb HW cf0 hs
      cases cb
      · have HE : Hid (b = false) := by
          cases b
          · rfl
          · have h5 := HB.out.1 rfl j hjl
            rw [HF.out] at h5
            have := HCB.out.2 h5
            cases this
        clear HI
        go_wp2
        go_ret
        exact ⟨by rw [HE.out]; rfl, HB5.out⟩
      · have HI' : Hid (∀ i (h : i < l.length), i < j + 1 → I.RcOk l[i]) := fun i h hi => by
          rcases Nat.lt_or_ge i j with h' | h'
          · exact HI.out i h h'
          · obtain rfl : i = j := by omega
            rw [HF.out]
            exact HCB.out.1 (by first | rfl | trivial)
        clear HI
        go_wp2
        go_roundg (gk - 1)
        case measure => omega
        case rel => exact ⟨j + 1, by omega, by go_num, HI', HB5⟩
    · have HE : Hid (b = true) := HB.out.2 (fun i h => HI.out i h (by have := HL.out; omega))
      clear HI
      go_wp2
      go_ret
      exact ⟨by rw [HE.out]; rfl, HW.out⟩
end Go.Proofs.YtadbekhekggpkaaGreatDoor
