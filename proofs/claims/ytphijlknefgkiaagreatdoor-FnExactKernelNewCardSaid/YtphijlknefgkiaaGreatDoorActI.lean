/-
  The program's table of rules: actsByTrouble, isRule, RulesOk, ActFor.
-/
import Derived.Test.YtphijlknefgkiaaGreatDoorActM
namespace Go.Proofs.YtphijlknefgkiaaGreatDoor
open Go.RowKit Go.PlainAid Go.Maps
set_option linter.unusedVariables false

set_option maxRecDepth 100000 in
set_option maxHeartbeats 2000000 in
theorem actsI (a : Option Addr) (l : List Rule) (n cap : Nat) (hl : l.length = n) (hn : n ≤ 1048576) (hw : WfU l) (w : World) (hr : RdU w a l) :
    Calls Tryz.prog 111 #[.slice a n cap] w fun e w' => ∃ (M : Nat) (D : DataW Unit), e = .returned (.map (some M)) ∧ MapA w' M n D ∧ ActsD D l n ∧ Below w.heap.size w w' := by
  have HL : Hid (l.length = n) := hl
  have HWF : Hid (WfU l) := hw
  have hmm := @run_makeMap Tryz.prog
  have HO0 : Hid (MapA (w.alloc (.map #[] 0)) w.heap.size 0 (.map [])) := World.ownsMap_made _ _ _ _
  have HB0 : Hid (Below w.heap.size w (w.alloc (.map #[] 0))) := (Below.refl _ _).alloc (Nat.le_refl _) _
  clear hl hw
  by_cases hp : 0 < n
  · obtain ⟨g, off, rfl, hc⟩ := hr (by have := HL.out; omega)
    have HC : Hid (∀ j (h : j < l.length), w.cell? ⟨g, off + j * 3, none⟩ = some (.int .i64 l[j].1) ∧ w.cell? ⟨g, off + j * 3 + 1, none⟩ = some (.int .i64 l[j].2.1) ∧ w.cell? ⟨g, off + j * 3 + 2, none⟩ = some (.int .i64 l[j].2.2)) := hc
    have hgl : g < w.heap.size := World.block_lt_of_cell? w ⟨g, off + 0 * 3, none⟩ (hc 0 (by have := HL.out; omega)).1
    clear hr hc
    go_enter Tryz.func111, Tryz.ntmps111
    go_wp2
    go_loopg [12] n (fun gk i wr => ∃ (j : Nat) (D : DataW Unit), j + gk = n ∧ i = .int .i64 j ∧ Hid (MapA wr w.heap.size j D) ∧ Hid (ActsD D l j) ∧ Hid (Below w.heap.size w wr))
    case atStart => exact ⟨0, .map [], by omega, rfl, HO0, actsD_zero l, HB0⟩
    case round =>
      clear HO0 HB0 hmm
      obtain ⟨j, D, hj, rfl, HO, HA, HW⟩ := hrel
      by_cases hlt : j < n
      · have hjl : j < l.length := by have := HL.out; omega
        have c0 := HC.out j hjl
        have c1 := (HW.out.cell (p := ⟨g, off + j * 3, none⟩) hgl).trans c0.1
        have c2 := (HW.out.cell (p := ⟨g, off + j * 3 + 1, none⟩) hgl).trans c0.2.1
        have c3 := (HW.out.cell (p := ⟨g, off + j * 3 + 2, none⟩) hgl).trans c0.2.2
        clear c0
        obtain ⟨f, hf⟩ : ∃ f, l[j].1 = f := ⟨_, rfl⟩
        obtain ⟨s, hs⟩ : ∃ s, l[j].2.1 = s := ⟨_, rfl⟩
        obtain ⟨t, ht⟩ : ∃ t, l[j].2.2 = t := ⟨_, rfl⟩
        have hwf := HWF.out j hjl
        rw [hf, hs, ht] at hwf
        rw [hf] at c1
        rw [hs] at c2
        rw [ht] at c3
        have HF : Hid (l[j].1 = f ∧ l[j].2.1 = s ∧ l[j].2.2 = t) := ⟨hf, hs, ht⟩
        clear hf hs ht
        obtain ⟨w1, w2, w3⟩ := hwf
        have hkey := keyT w1 w2
        have hval := plainElem_int (H := Unit) Tryz.underlying3 w3
        have hms := HW.out.size
        have HMX : Hid (MapA ((wr.alloc (.cells #[.int .i64 f, .int .i64 s, .int .i64 t] 104)).alloc (.cells #[.int .i64 f, .int .i64 s] 187)) w.heap.size j D) := (HO.out.alloc _).alloc _
        have HWX : Hid (Below w.heap.size w ((wr.alloc (.cells #[.int .i64 f, .int .i64 s, .int .i64 t] 104)).alloc (.cells #[.int .i64 f, .int .i64 s] 187))) := (HW.out.alloc HW.out.size _).alloc (by simp; omega) _
        have htd : Tidy D := World.ownsMap.tidy HO.out lawT
        clear HO HW w1 w2 w3
        have hown : World.ownsMap ((wr.alloc (.cells #[.int .i64 f, .int .i64 s, .int .i64 t] 104)).alloc (.cells #[.int .i64 f, .int .i64 s] 187)) Tryz.prog 187 (plainElem Tryz.prog 3) w.heap.size j D := HMX.out
        obtain ⟨hb, hhas⟩ : ∃ b, Maps.has D (klT f s) = b := ⟨_, rfl⟩
        cases hb
        · have HA' : Hid (ActsD (D.put (klT f s) (.lit (.int .i64 t))) l (j + 1)) := by
            have h := actsD_new HA.out htd HWF.out hjl (by rw [HF.out.1, HF.out.2.1]; exact hhas)
            rw [HF.out.1, HF.out.2.1, HF.out.2.2] at h
            exact h
          clear HA htd HF HMX
          go_wp2_with (first | (at_lookup; refine wpList_lookup_own_ok_int _ rfl _ _ 179 rfl 187 3 .i64 lawT Tryz.underlying179 Tryz.underlying3 (zeroT _) w.heap.size j D rfl hown _ _ rfl hkey ?_; intro c hat hwc; clear hat hwc) | (at_mapUpdate; refine wpList_mapUpdate_own _ rfl _ _ _ 179 rfl 187 3 lawT Tryz.underlying179 _ w.heap.size j D rfl hown (by unfold maxLen; omega) _ _ _ rfl rfl hkey _ [] hval ?_) | go_in)
          intro w3 hown3 hgrow3
          have HO3 : Hid (MapA w3 w.heap.size (j + 1) (D.put (klT f s) (.lit (.int .i64 t)))) := hown3
          have HW3 : Hid (Below w.heap.size w w3) := HWX.out.grown hgrow3 HWX.out.size (fun k hk => by cases hk; exact Nat.le_refl _)
          clear hown hown3 hgrow3 HWX hkey hval hhas c1 c2 c3
          go_wp2
          go_roundg (gk - 1)
          case measure => omega
          case rel => exact ⟨j + 1, _, by omega, by go_num, HO3, HA', HW3⟩
        · have HA' : Hid (ActsD D l (j + 1)) := actsD_old HA.out HWF.out hjl (by rw [HF.out.1, HF.out.2.1]; exact hhas)
          have HO3 : Hid (MapA ((wr.alloc (.cells #[.int .i64 f, .int .i64 s, .int .i64 t] 104)).alloc (.cells #[.int .i64 f, .int .i64 s] 187)) w.heap.size (j + 1) D) := World.ownsMap.mono HMX.out (Nat.le_succ _)
          clear HA htd HF HMX
          go_wp2_with (first | (at_lookup; refine wpList_lookup_own_ok_int _ rfl _ _ 179 rfl 187 3 .i64 lawT Tryz.underlying179 Tryz.underlying3 (zeroT _) w.heap.size j D rfl hown _ _ rfl hkey ?_; intro c hat hwc; clear hat hwc) | go_in)
          clear hown hkey hval hhas c1 c2 c3
          go_roundg (gk - 1)
          case measure => omega
          case rel => exact ⟨j + 1, D, by omega, by go_num, HO3, HA', HWX⟩
      · obtain rfl : j = n := by omega
        go_wp2
        go_ret
        exact ⟨_, D, rfl, HO.out, HA.out, HW.out⟩
  · obtain rfl : n = 0 := by omega
    clear hr hp
    go_enter Tryz.func111, Tryz.ntmps111
    go_wp2
    go_rounds 1
    go_ret
    exact ⟨_, .map [], rfl, HO0.out, actsD_zero l, HB0.out⟩

theorem partU (n : Int) (b : Bool) (hb : decide (1 ≤ n ∧ n ≤ 4) = b) (w : World) : Calls Tryz.prog 107 #[.int .i64 n] w fun e w' => e = .returned (.bool b) ∧ Below w.heap.size w w' := by
  go_enter Tryz.func107, Tryz.ntmps107
  go_wp2_with fail
  refine (holdsI 1 4 n b hb _).mono ?_
  rintro e w1 ⟨rfl, hb1⟩
  go_wp2
  go_ret
  exact ⟨rfl, hb1⟩
theorem faultU (n : Int) (b : Bool) (hb : decide (n = 1 ∨ n = 2) = b) (w : World) : Calls Tryz.prog 115 #[.int .i64 n] w fun e w' => e = .returned (.bool b) ∧ w' = w := by
  by_cases h1 : n = 1
  · subst h1
    subst hb
    go_enter Tryz.func115, Tryz.ntmps115
    go_wp2
    go_ret
    exact ⟨rfl, rfl⟩
  · have q1 : (n == 1) = false := by simpa using h1
    obtain ⟨c, hc⟩ : ∃ c, (n == 2) = c := ⟨_, rfl⟩
    have HB : Hid (c = b) := by
      show c = b
      rw [← hb, ← hc, Bool.eq_iff_iff, decide_eq_true_iff, beq_iff_eq]
      exact ⟨fun h => .inr h, fun h => h.resolve_left h1⟩
    clear hb h1
    go_enter Tryz.func115, Tryz.ntmps115
    go_wp2
    go_ret
    exact ⟨by rw [HB.out]; rfl, rfl⟩
set_option maxRecDepth 100000 in
set_option maxHeartbeats 1000000 in
theorem ruleI (x y z : Int) (b : Bool) (hb : b = true ↔ ruleR (x, y, z)) (w : World) : Calls Tryz.prog 110 #[.agg #[.int .i64 x, .int .i64 y, .int .i64 z]] w fun e w' => e = .returned (.bool b) ∧ Below w.heap.size w w' := by
  have HX0 : Hid ((w.alloc (.cells #[.int .i64 x, .int .i64 y, .int .i64 z] 104)).heap[w.heap.size]? = some (.cells #[.int .i64 x, .int .i64 y, .int .i64 z] 104)) := heap_new w _
  have HW0 : Hid (Below w.heap.size w (w.alloc (.cells #[.int .i64 x, .int .i64 y, .int .i64 z] 104))) := (Below.refl _ _).alloc (Nat.le_refl _) _
  by_cases hx : 1 ≤ x ∧ x ≤ 4
  · have hd1 : decide ((1 : Int) ≤ x ∧ x ≤ 4) = true := decide_eq_true hx
    by_cases hy1 : y = 1
    · subst hy1
      have HB : Hid (decide ((1 : Int) ≤ z ∧ z ≤ 4) = b) := by
        show _ = b
        rw [Bool.eq_iff_iff, hb, decide_eq_true_iff]
        unfold ruleR
        constructor
        · intro h; exact ⟨hx, ⟨by show (1 : Int) ≤ 1; omega, by show (1 : Int) ≤ 2; omega⟩, ⟨by show (0 : Int) ≤ z; omega, h.2⟩, fun h' => by have h5 : z = 0 := h'.2; omega⟩
        · intro h
          obtain ⟨_, _, h3, h4⟩ := h
          simp at h3 h4
          exact ⟨by omega, h3.2⟩
      clear hb hx
      go_enter Tryz.func110, Tryz.ntmps110
      go_wp2_with fail
      refine (partU x true hd1 _).mono ?_
      rintro e w1 ⟨rfl, hb1⟩
      have k1 := row3_cells (row_on HX0.out hb1)
      have HW1 : Hid (Below w.heap.size w w1) := bel_on (Nat.le_refl _) HW0.out hb1
      clear hb1 HX0 HW0 hd1
      go_wp2_with fail
      refine (faultU 1 true rfl _).mono ?_
      rintro e w2 ⟨rfl, rfl⟩
      go_wp2_with fail
      refine (holdsI 1 4 z b HB.out _).mono ?_
      rintro e w3 ⟨rfl, hb3⟩
      have HW3 : Hid (Below w.heap.size w w3) := bel_on (Nat.le_refl _) HW1.out hb3
      clear hb3 HW1 k1
      go_wp2
      go_ret
      exact ⟨rfl, HW3.out⟩
    · by_cases hy2 : y = 2
      · subst hy2
        have HB : Hid (decide ((0 : Int) ≤ z ∧ z ≤ 4) = b) := by
          show _ = b
          rw [Bool.eq_iff_iff, hb, decide_eq_true_iff]
          unfold ruleR
          constructor
          · intro h; exact ⟨hx, ⟨by show (1 : Int) ≤ 2; omega, by show (2 : Int) ≤ 2; omega⟩, h, fun h' => by have h5 : (2 : Int) = 1 := h'.1; omega⟩
          · intro h; exact h.2.2.1
        clear hb hx hy1
        go_enter Tryz.func110, Tryz.ntmps110
        go_wp2_with fail
        refine (partU x true hd1 _).mono ?_
        rintro e w1 ⟨rfl, hb1⟩
        have k1 := row3_cells (row_on HX0.out hb1)
        have HW1 : Hid (Below w.heap.size w w1) := bel_on (Nat.le_refl _) HW0.out hb1
        clear hb1 HX0 HW0 hd1
        go_wp2_with fail
        refine (faultU 2 true rfl _).mono ?_
        rintro e w2 ⟨rfl, rfl⟩
        go_wp2_with fail
        refine (holdsI 0 4 z b HB.out _).mono ?_
        rintro e w3 ⟨rfl, hb3⟩
        have HW3 : Hid (Below w.heap.size w w3) := bel_on (Nat.le_refl _) HW1.out hb3
        clear hb3 HW1 k1
        go_wp2
        go_ret
        exact ⟨rfl, HW3.out⟩
      · have HB : Hid (b = false) := by
          show b = false
          cases b
          · rfl
          · have := (hb.1 rfl).2.1
            simp at this
            omega
        have hd2 : decide (y = 1 ∨ y = 2) = false := decide_eq_false (by omega)
        have q1 : (y == 1) = false := by simpa using hy1
        clear hb hx hy1 hy2
        go_enter Tryz.func110, Tryz.ntmps110
        go_wp2_with fail
        refine (partU x true hd1 _).mono ?_
        rintro e w1 ⟨rfl, hb1⟩
        have k1 := row3_cells (row_on HX0.out hb1)
        have HW1 : Hid (Below w.heap.size w w1) := bel_on (Nat.le_refl _) HW0.out hb1
        clear hb1 HX0 HW0 hd1
        go_wp2_with fail
        refine (faultU y false hd2 _).mono ?_
        rintro e w2 ⟨rfl, rfl⟩
        clear hd2
        go_wp2
        go_ret
        exact ⟨by rw [HB.out]; rfl, HW1.out⟩
  · have HB : Hid (b = false) := by
      show b = false
      cases b
      · rfl
      · exact absurd (hb.1 rfl).1 hx
    have hd1 : decide ((1 : Int) ≤ x ∧ x ≤ 4) = false := decide_eq_false hx
    clear hb hx
    obtain ⟨q, hq⟩ : ∃ q, (y == 1) = q := ⟨_, rfl⟩
    cases q
    all_goals
      go_enter Tryz.func110, Tryz.ntmps110
      go_wp2_with fail
      refine (partU x false hd1 _).mono ?_
      rintro e w1 ⟨rfl, hb1⟩
      have HW1 : Hid (Below w.heap.size w w1) := bel_on (Nat.le_refl _) HW0.out hb1
      clear hb1 HX0 HW0 hd1
      go_wp2
      go_ret
      exact ⟨by rw [HB.out]; rfl, HW1.out⟩

set_option maxRecDepth 100000 in
set_option maxHeartbeats 2000000 in
theorem rulesI (a : Option Addr) (l : List Rule) (n cap : Nat) (b : Bool) (hl : l.length = n) (hn : n ≤ 1048576) (hwf : WfU l) (hb : b = true ↔ RulesR l) (w : World) (hr : RdU w a l) :
    Calls Tryz.prog 95 #[.slice a n cap] w fun e w' => e = .returned (.bool b) ∧ Below w.heap.size w w' := by
  have HB : Hid (b = true ↔ RulesR l) := hb
  have HL : Hid (l.length = n) := hl
  have HWF : Hid (WfU l) := hwf
  clear hb hl hwf
  by_cases h8 : n ≤ 8
  · have hR : Hid (RdU w a l) := hr
    by_cases hp : 0 < n
    · obtain ⟨g, off, rfl, hc⟩ := hr (by have := HL.out; omega)
      have HC : Hid (∀ j (h : j < l.length), w.cell? ⟨g, off + j * 3, none⟩ = some (.int .i64 l[j].1) ∧ w.cell? ⟨g, off + j * 3 + 1, none⟩ = some (.int .i64 l[j].2.1) ∧ w.cell? ⟨g, off + j * 3 + 2, none⟩ = some (.int .i64 l[j].2.2)) := hc
      have hgl : g < w.heap.size := World.block_lt_of_cell? w ⟨g, off + 0 * 3, none⟩ (hc 0 (by have := HL.out; omega)).1
      clear hr hc
      go_enter Tryz.func95, Tryz.ntmps95
      go_wp2
      go_loopg [10] n (fun gk i wr => ∃ j : Nat, j + gk = n ∧ i = .int .i64 j ∧ Hid (∀ i (h : i < l.length), i < j → ruleR l[i]) ∧ Hid (Below w.heap.size w wr))
      case atStart => exact ⟨0, by omega, rfl, fun i _ h => by omega, Below.refl _ _⟩
      case round =>
        obtain ⟨j, hj, rfl, HI, HW⟩ := hrel
        by_cases hlt : j < n
        · have hjl : j < l.length := by have := HL.out; omega
          have c0 := HC.out j hjl
          have c1 := (HW.out.cell (p := ⟨g, off + j * 3, none⟩) hgl).trans c0.1
          have c2 := (HW.out.cell (p := ⟨g, off + j * 3 + 1, none⟩) hgl).trans c0.2.1
          have c3 := (HW.out.cell (p := ⟨g, off + j * 3 + 2, none⟩) hgl).trans c0.2.2
          clear c0
          obtain ⟨f, hf⟩ : ∃ f, l[j].1 = f := ⟨_, rfl⟩
          obtain ⟨s, hs⟩ : ∃ s, l[j].2.1 = s := ⟨_, rfl⟩
          obtain ⟨t, ht⟩ : ∃ t, l[j].2.2 = t := ⟨_, rfl⟩
          rw [hf] at c1
          rw [hs] at c2
          rw [ht] at c3
          have HF : Hid (l[j] = (f, s, t)) := by rw [← hf, ← hs, ← ht]; rfl
          clear hf hs ht
          have HWX : Hid (Below w.heap.size w (wr.alloc (.cells #[.int .i64 f, .int .i64 s, .int .i64 t] 104))) := HW.out.alloc HW.out.size _
          clear HW
          by_cases hR1 : ruleR (f, s, t)
          · have HI' : Hid (∀ i (h : i < l.length), i < j + 1 → ruleR l[i]) := fun i h hi => by
              rcases Nat.lt_or_ge i j with h' | h'
              · exact HI.out i h h'
              · obtain rfl : i = j := by omega
                rw [HF.out]; exact hR1
            have HB1 : Hid (ruleR (f, s, t)) := hR1
            clear HI hR1
            go_wp2_with fail
            refine (ruleI f s t true ⟨(fun _ => HB1.out), (fun _ => rfl)⟩ _).mono ?_
            rintro e w1 ⟨rfl, hb1⟩
            have HW1 : Hid (Below w.heap.size w w1) := bel_on (Nat.le_refl _) HWX.out hb1
            clear hb1 HB1 HWX c1 c2 c3
            go_wp2
            go_roundg (gk - 1)
            case measure => omega
            case rel => exact ⟨j + 1, by omega, by go_num, HI', HW1⟩
          · have HE : Hid (b = false) := rules_not HB.out j hjl (by rw [HF.out]; exact hR1)
            have HB1 : Hid (false = true ↔ ruleR (f, s, t)) := ⟨(fun h => by cases h), (fun h => absurd h hR1)⟩
            clear HI hR1
            go_wp2_with fail
            refine (ruleI f s t false HB1.out _).mono ?_
            rintro e w1 ⟨rfl, hb1⟩
            have HW1 : Hid (Below w.heap.size w w1) := bel_on (Nat.le_refl _) HWX.out hb1
            clear hb1 HB1 HWX c1 c2 c3
            go_wp2
            go_ret
            exact ⟨by rw [HE.out]; rfl, HW1.out⟩
        · have HALL : Hid (∀ i (h : i < l.length), ruleR l[i]) := fun i h => HI.out i h (by have := HL.out; omega)
          have HR1 : Hid (RdU wr (some ⟨g, off, none⟩) l) := hR.out.on HW.out
          clear HI hR
          go_wp2_with fail
          refine (actsI (some ⟨g, off, none⟩) l n cap HL.out hn HWF.out _ HR1.out).mono ?_
          rintro e w2 ⟨M, D, rfl, hM, hA, hb2⟩
          have HW2 : Hid (Below w.heap.size w w2) := bel_on (Nat.le_refl _) HW.out hb2
          have HQ : Hid (((Maps.size D : Int) == (n : Int)) = b) := by
            show _ = b
            have e := HL.out
            rw [Bool.eq_iff_iff, beq_iff_eq, HB.out, rulesR_iff]
            have h3 := hA.2.2
            constructor
            · intro h; exact ⟨HALL.out, by rw [e]; exact h3.1 (by omega), by omega⟩
            · intro h
              have h5 := h.2.1
              rw [e] at h5
              have := h3.2 h5
              omega
          have hown : World.ownsMap w2 Tryz.prog 187 (plainElem Tryz.prog 3) M n D := hM
          clear hM hA hb2 HW HR1 HALL
          go_wp2_with (first | (at_len; refine wpList_len_own _ rfl _ 179 rfl 187 3 Tryz.underlying179 _ M n D rfl hown ?_) | go_in)
          go_ret
          exact ⟨by rw [HQ.out]; rfl, HW2.out⟩
    · obtain rfl : n = 0 := by omega
      clear hp hr
      go_enter Tryz.func95, Tryz.ntmps95
      go_wp2
      refine wp_loop_rounds 1 ?_
      rw [rounds_succ]
      go_wp2_with fail
      refine (actsI a l 0 cap HL.out hn HWF.out _ hR.out).mono ?_
      rintro e w2 ⟨M, D, rfl, hM, hA, hb2⟩
      have HW2 : Hid (Below w.heap.size w w2) := hb2
      have HE : Hid (b = true) := HB.out.2 ((rulesR_iff l).2 ⟨fun i h => by have := HL.out; omega, fun i h => by have := HL.out; omega, by have := HL.out; omega⟩)
      have hs0 : Maps.size D = 0 := by have := hA.2.1; omega
      have hown : World.ownsMap w2 Tryz.prog 187 (plainElem Tryz.prog 3) M 0 D := hM
      clear hM hA hb2
      go_wp2_with (first | (at_len; refine wpList_len_own _ rfl _ 179 rfl 187 3 Tryz.underlying179 _ M 0 D rfl hown ?_) | go_in)
      go_ret
      exact ⟨by rw [HE.out]; rfl, HW2.out⟩
  · have HE : Hid (b = false) := rules_no HB.out (fun h => by have := h.2; have := HL.out; omega)
    clear hr
    go_enter Tryz.func95, Tryz.ntmps95
    go_wp2
    go_ret
    exact ⟨by rw [HE.out]; rfl, Below.refl _ _⟩

end Go.Proofs.YtphijlknefgkiaaGreatDoor
