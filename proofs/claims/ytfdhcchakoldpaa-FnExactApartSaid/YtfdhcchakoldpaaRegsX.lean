/-
  Lists of regions: whether they are right: the contracts of the program's and of the specification's.
-/
import Derived.Test.YtfdhcchakoldpaaRegB
namespace Go.Proofs.Ytfdhcchakoldpaa.R
open Go.RowKit Go.PlainAid
set_option linter.unusedVariables false

def regIn (f s : Int) : Prop := 0 ≤ f ∧ f ≤ 63 ∧ 1 ≤ s ∧ s ≤ 64 - f
def apart (f s f' s' : Int) : Prop := f + s ≤ f' ∨ f' + s' ≤ f
/-- right regions -/
def RegsOk (rl : List (Int × Int)) : Prop := 1 ≤ rl.length ∧ rl.length ≤ 4 ∧ (∀ i (h : i < rl.length), regIn rl[i].1 rl[i].2) ∧ ∀ i (h : i < rl.length) k (hk : k < i), apart rl[i].1 rl[i].2 (rl[k]'(by omega)).1 (rl[k]'(by omega)).2

def AllIn (rl : List (Int × Int)) (j : Nat) : Prop := ∀ i (h : i < rl.length), i < j → regIn rl[i].1 rl[i].2
def AllApart (rl : List (Int × Int)) (j : Nat) : Prop := ∀ i (h : i < rl.length) k (hk : k < i), i < j → apart rl[i].1 rl[i].2 (rl[k]'(by omega)).1 (rl[k]'(by omega)).2
def RowApart (rl : List (Int × Int)) (j k : Nat) : Prop := ∀ (h : j < rl.length) i (hi : i < j), i < k → apart rl[j].1 rl[j].2 (rl[i]'(by omega)).1 (rl[i]'(by omega)).2
theorem allIn_succ {rl : List (Int × Int)} {j : Nat} (h : AllIn rl j) (hj : j < rl.length) (hr : regIn rl[j].1 rl[j].2) : AllIn rl (j + 1) := fun i hi hlt => by
  by_cases e : i = j
  · subst e; exact hr
  · exact h i hi (by omega)
theorem rowApart_succ {rl : List (Int × Int)} {j k : Nat} (h : RowApart rl j k) (hj : j < rl.length) (hk : k < j) (hr : apart rl[j].1 rl[j].2 (rl[k]'(by omega)).1 (rl[k]'(by omega)).2) : RowApart rl j (k + 1) := fun h' i hi hlt => by
  by_cases e : i = k
  · subst e; exact hr
  · exact h h' i hi (by omega)
theorem allApart_succ {rl : List (Int × Int)} {j : Nat} (h : AllApart rl j) (hr : RowApart rl j j) : AllApart rl (j + 1) := fun i hi k hk hlt => by
  by_cases e : i = j
  · subst e; exact hr hi k hk hk
  · exact h i hi k hk (by omega)

set_option maxRecDepth 100000 in
set_option maxHeartbeats 2000000 in
theorem regsS (a : Option Addr) (rl : List (Int × Int)) (n cap : Nat) (b : Bool) (hl : rl.length = n) (hn : n ≤ 1048576) (hb : b = true ↔ RegsOk rl) (w : World) (hr : RdR w a rl) :
    Calls Try.prog 142 #[.slice a n cap] w fun e w' => e = .returned (.bool b) ∧ Below w.heap.size w w' := by
  have HB : Hid (b = true ↔ RegsOk rl) := hb
  have HL : Hid (rl.length = n) := hl
  clear hb hl
  by_cases hp : 0 < n
  · obtain ⟨g, off, rfl, hc⟩ := hr (by have := HL.out; omega)
    have HC : Hid (∀ j (h : j < rl.length), w.cell? ⟨g, off + j * 2, none⟩ = some (.int .i64 rl[j].1) ∧ w.cell? ⟨g, off + j * 2 + 1, none⟩ = some (.int .i64 rl[j].2)) := hc
    have hgl : g < w.heap.size := World.block_lt_of_cell? w ⟨g, off + 0 * 2, none⟩ (hc 0 (by have := HL.out; omega)).1
    clear hr hc
    go_enter Try.func142, Try.ntmps142
    go_wp2
    go_loopg [3] n (fun gk i wr => ∃ j : Nat, j + gk = n ∧ i = .int .i64 j ∧ Hid (AllIn rl j) ∧ Hid (AllApart rl j) ∧ Hid (Below w.heap.size w wr))
    case atStart => exact ⟨0, by omega, rfl, (fun i _ h => by omega), (fun i _ k hk h => by omega), Below.refl _ _⟩
    case round =>
      obtain ⟨j, hj, rfl, HI, HP, HW⟩ := hrel
      by_cases hlt : j < n
      · have hjl : j < rl.length := by have := HL.out; omega
        have c0 := HC.out j hjl
        have c1 := (HW.out.cell (p := ⟨g, off + j * 2, none⟩) hgl).trans c0.1
        have c2 := (HW.out.cell (p := ⟨g, off + j * 2 + 1, none⟩) hgl).trans c0.2
        clear c0
        obtain ⟨f, hf⟩ : ∃ f, rl[j].1 = f := ⟨_, rfl⟩
        obtain ⟨s, hs⟩ : ∃ s, rl[j].2 = s := ⟨_, rfl⟩
        rw [hf] at c1
        rw [hs] at c2
        have HF : Hid (rl[j].1 = f ∧ rl[j].2 = s) := ⟨hf, hs⟩
        clear hf hs
        have HW2 : Hid (Below w.heap.size w (wr.alloc (.cells #[.int .i64 f, .int .i64 s] 185))) := HW.out.alloc HW.out.size _
        have HBX : Hid ((wr.alloc (.cells #[.int .i64 f, .int .i64 s] 185)).heap[wr.heap.size]? = some (.cells #[.int .i64 f, .int .i64 s] 185)) := heap_new wr _
        have HNO : Hid (¬ regIn f s → b = false) := fun hin => by
          cases b
          · rfl
          · have := (HB.out.1 rfl).2.2.1 j hjl
            rw [HF.out.1, HF.out.2] at this
            exact absurd this hin
        by_cases h1 : 0 ≤ f ∧ f ≤ 63
        · have hd1 : decide ((0 : Int) ≤ f ∧ f ≤ 63) = true := decide_eq_true h1
          obtain ⟨h1a, h1b⟩ := h1
          by_cases h2 : 1 ≤ s ∧ s ≤ 64 - f
          · have hd2 : decide ((1 : Int) ≤ s ∧ s ≤ 64 - f) = true := decide_eq_true h2
            obtain ⟨h2a, h2b⟩ := h2
            have HI' : Hid (AllIn rl (j + 1)) := allIn_succ HI.out hjl (by rw [HF.out.1, HF.out.2]; exact ⟨h1a, h1b, h2a, h2b⟩)
            go_wp2_with fail
            refine (inS 0 63 f true hd1 _).mono ?_
            rintro e w2 ⟨rfl, rfl⟩
            go_wp2_with fail
            refine (inS 1 (64 - f) s true hd2 _).mono ?_
            rintro e w3 ⟨rfl, rfl⟩
            clear hd1 hd2 c1 c2 HW
            go_wp2
            go_loopg [5] j (fun gk i wy => ∃ k : Nat, k + gk = j ∧ i = .int .i64 k ∧ Hid (RowApart rl j k) ∧ Hid (wy.heap[wr.heap.size]? = some (.cells #[.int .i64 f, .int .i64 s] 185)) ∧ Hid (Below w.heap.size w wy))
            case atStart => exact ⟨0, by omega, rfl, (fun _ i _ h => by omega), HBX, HW2⟩
            case round =>
              clear HBX HW2
              rename World => wy
              obtain ⟨k, hk, rfl, HQ, HBX, HWY⟩ := hrel
              by_cases hlk : k < j
              · have hkl : k < rl.length := by have := HL.out; omega
                have c0 := HC.out k hkl
                have c1 := (HWY.out.cell (p := ⟨g, off + k * 2, none⟩) hgl).trans c0.1
                have c2 := (HWY.out.cell (p := ⟨g, off + k * 2 + 1, none⟩) hgl).trans c0.2
                clear c0
                obtain ⟨f', hf⟩ : ∃ f', rl[k].1 = f' := ⟨_, rfl⟩
                obtain ⟨s', hs⟩ : ∃ s', rl[k].2 = s' := ⟨_, rfl⟩
                rw [hf] at c1
                rw [hs] at c2
                have HF' : Hid (rl[k].1 = f' ∧ rl[k].2 = s') := ⟨hf, hs⟩
                have HM' : Hid (regIn f' s') := by have := HI.out k hkl (by omega); rw [hf, hs] at this; exact this
                clear hf hs
                have k6 := row2_cells HBX.out
                have i0 : (0 : Int) ≤ (k : Int) := by omega
                have i1 : (k : Int) < (n : Int) := by omega
                obtain ⟨X, q1, HX⟩ : ∃ X, IntKind.i64.wrap (f' + s') = X ∧ Hid (X = f' + s') := ⟨f' + s', wrap_in (by have := HM'.out; unfold regIn at this; omega) (by have := HM'.out; unfold regIn at this; omega), rfl⟩
                obtain ⟨Y, q2, HY⟩ : ∃ Y, IntKind.i64.wrap (f + s) = Y ∧ Hid (Y = f + s) := ⟨f + s, wrap_in (by omega) (by omega), rfl⟩
                by_cases hA : f < X
                · have hA' : decide (f < X) = true := decide_eq_true hA
                  by_cases hC : f' < Y
                  · have hC' : decide (f' < Y) = true := decide_eq_true hC
                    have HE : Hid (b = false) := by
                      cases b
                      · rfl
                      · have := (HB.out.1 rfl).2.2.2 j hjl k hlk
                        rw [HF.out.1, HF.out.2, HF'.out.1, HF'.out.2] at this
                        have e1 := HX.out
                        have e2 := HY.out
                        unfold apart at this
                        omega
                    go_wp2
                    go_quiet (fail)
                    go_wp2
                    go_ret
                    exact ⟨by rw [HE.out]; rfl, below_drewN HWY.out _⟩
                  · have hC' : decide (f' < Y) = false := decide_eq_false hC
                    have HQ' : Hid (RowApart rl j (k + 1)) := rowApart_succ HQ.out hjl hlk (by rw [HF.out.1, HF.out.2, HF'.out.1, HF'.out.2]; have e2 := HY.out; left; omega)
                    go_wp2
                    go_quiet (fail)
                    go_wp2
                    go_roundg (gk - 1)
                    case measure => omega
                    case rel => exact ⟨k + 1, by omega, by go_num, HQ', HBX, below_drewN HWY.out _⟩
                · have hA' : decide (f < X) = false := decide_eq_false hA
                  have HQ' : Hid (RowApart rl j (k + 1)) := rowApart_succ HQ.out hjl hlk (by rw [HF.out.1, HF.out.2, HF'.out.1, HF'.out.2]; have e1 := HX.out; right; omega)
                  go_wp2
                  go_quiet (fail)
                  go_wp2
                  go_roundg (gk - 1)
                  case measure => omega
                  case rel => exact ⟨k + 1, by omega, by go_num, HQ', HBX, below_drewN HWY.out _⟩
              · obtain rfl : k = j := by omega
                have HP' : Hid (AllApart rl (k + 1)) := allApart_succ HP.out HQ.out
                go_wp2
                go_roundg (n - (k + 1))
                case measure => omega
                case rel => exact ⟨k + 1, by omega, by go_num, HI', HP', HWY⟩
          · have hd2 : decide ((1 : Int) ≤ s ∧ s ≤ 64 - f) = false := decide_eq_false h2
            have HE : Hid (b = false) := HNO.out (fun h => h2 ⟨h.2.2.1, h.2.2.2⟩)
            clear h2
            go_wp2_with fail
            refine (inS 0 63 f true hd1 _).mono ?_
            rintro e w2 ⟨rfl, rfl⟩
            go_wp2_with fail
            refine (inS 1 (64 - f) s false hd2 _).mono ?_
            rintro e w3 ⟨rfl, rfl⟩
            clear hd1 hd2 c1 c2 HW
            go_wp2
            go_ret
            exact ⟨by rw [HE.out]; rfl, HW2.out⟩
        · have hd1 : decide ((0 : Int) ≤ f ∧ f ≤ 63) = false := decide_eq_false h1
          have HE : Hid (b = false) := HNO.out (fun h => h1 ⟨h.1, h.2.1⟩)
          clear h1
          go_wp2_with fail
          refine (inS 0 63 f false hd1 _).mono ?_
          rintro e w2 ⟨rfl, rfl⟩
          clear hd1 c1 c2 HW
          go_wp2
          go_ret
          exact ⟨by rw [HE.out]; rfl, HW2.out⟩
      · obtain rfl : j = n := by omega
        have HE : Hid (decide ((1 : Int) ≤ (j : Int) ∧ (j : Int) ≤ 4) = b) := by
          have e := HL.out
          show _ = _
          cases b
          · refine decide_eq_false (fun h => ?_)
            have := HB.out.2 ⟨by omega, by omega, fun i h => HI.out i h (by omega), fun i h k hk => HP.out i h k hk (by omega)⟩
            cases this
          · have := HB.out.1 rfl
            have h1 := this.1
            have h2 := this.2.1
            exact decide_eq_true ⟨by omega, by omega⟩
        clear hlt
        go_wp2_with fail
        refine (inS 1 4 j b HE.out _).mono ?_
        rintro e w2 ⟨rfl, rfl⟩
        go_wp2
        go_ret
        exact ⟨rfl, HW.out⟩
  · obtain rfl : n = 0 := by omega
    have HE : Hid (b = false) := by
      cases b
      · rfl
      · have h1 := (HB.out.1 rfl).1
        have := HL.out
        omega
    clear hr hp
    go_enter Try.func142, Try.ntmps142
    go_wp2
    go_rounds 1
    go_ret
    exact ⟨by rw [HE.out]; rfl, Below.refl _ _⟩
end Go.Proofs.Ytfdhcchakoldpaa.R
