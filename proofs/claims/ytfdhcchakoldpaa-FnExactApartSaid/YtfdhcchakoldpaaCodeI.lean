/-
  Whether code is right: the contracts of the program's and of the specification's.
-/
import Derived.Test.YtfdhcchakoldpaaInsI
namespace Go.Proofs.Ytfdhcchakoldpaa.I
open Go.RowKit Go.PlainAid
set_option linter.unusedVariables false

def isB (x : Int) : Prop := 0 ≤ x ∧ x ≤ 255
/-- right code -/
def CodeR (rl : List (Int × Int)) : Prop := rl.length ≤ 60 ∧ ∀ i (h : i < rl.length), isB rl[i].1 ∧ isB rl[i].2
def AllB (rl : List (Int × Int)) (j : Nat) : Prop := ∀ i (h : i < rl.length), i < j → isB rl[i].1 ∧ isB rl[i].2
theorem allB_zero (rl : List (Int × Int)) : AllB rl 0 := fun i _ h => by omega
theorem allB_succ {rl : List (Int × Int)} {j : Nat} (h : AllB rl j) (hj : j < rl.length) (hr : isB rl[j].1 ∧ isB rl[j].2) : AllB rl (j + 1) := fun i hi hlt => by
  by_cases e : i = j
  · subst e; exact hr
  · exact h i hi (by omega)
theorem code_bool (rl : List (Int × Int)) : ∃ b : Bool, b = true ↔ CodeR rl := by
  by_cases hk : CodeR rl
  · exact ⟨true, ⟨fun _ => hk, fun _ => rfl⟩⟩
  · exact ⟨false, ⟨fun h => (by cases h), fun h => absurd h hk⟩⟩
theorem not_code {rl : List (Int × Int)} {b : Bool} (hb : b = true ↔ CodeR rl) (j : Nat) (hj : j < rl.length) (h : ¬ (isB rl[j].1 ∧ isB rl[j].2)) : b = false := by
  cases b
  · rfl
  · exact absurd ((hb.1 rfl).2 j hj) h
theorem not_long {rl : List (Int × Int)} {b : Bool} (hb : b = true ↔ CodeR rl) (h : ¬ rl.length ≤ 60) : b = false := by
  cases b
  · rfl
  · exact absurd (hb.1 rfl).1 h

set_option maxRecDepth 100000 in
set_option maxHeartbeats 2000000 in
theorem codeokS (a : Option Addr) (rl : List (Int × Int)) (n cap : Nat) (b : Bool) (hl : rl.length = n) (hn : n ≤ 9223372036854775807) (hb : b = true ↔ CodeR rl) (w : World) (hr : RdR w a rl) :
    Calls Try.prog 187 #[.slice a n cap] w fun e w' => e = .returned (.bool b) ∧ w' = w := by
  have HB : Hid (b = true ↔ CodeR rl) := hb
  have HL : Hid (rl.length = n) := hl
  clear hb hl
  by_cases hp : 0 < n
  · obtain ⟨g, off, rfl, hc⟩ := hr (by have := HL.out; omega)
    have HC : Hid (∀ j (h : j < rl.length), w.cell? ⟨g, off + j * 2, none⟩ = some (.int .i64 rl[j].1) ∧ w.cell? ⟨g, off + j * 2 + 1, none⟩ = some (.int .i64 rl[j].2)) := hc
    clear hr hc
    go_enter Try.func187, Try.ntmps187
    go_wp2
    go_loopg [3] n (fun gk i wr => ∃ j : Nat, j + gk = n ∧ i = .int .i64 j ∧ Hid (AllB rl j) ∧ wr = w)
    case atStart => exact ⟨0, by omega, rfl, allB_zero rl, rfl⟩
    case round =>
      obtain ⟨j, hj, rfl, HI, rfl⟩ := hrel
      by_cases hlt : j < n
      · have hjl : j < rl.length := by have := HL.out; omega
        obtain ⟨c1, c2⟩ := HC.out j hjl
        obtain ⟨f, hf⟩ : ∃ f, rl[j].1 = f := ⟨_, rfl⟩
        obtain ⟨s, hs⟩ : ∃ s, rl[j].2 = s := ⟨_, rfl⟩
        rw [hf] at c1
        rw [hs] at c2
        have HF : Hid (rl[j].1 = f ∧ rl[j].2 = s) := ⟨hf, hs⟩
        clear hf hs
        by_cases hf : 0 ≤ f ∧ f ≤ 255
        · have hd1 : decide ((0 : Int) ≤ f ∧ f ≤ 255) = true := decide_eq_true hf
          go_wp2_with fail
          refine (inS 0 255 f true hd1 _).mono ?_
          rintro e w1 ⟨rfl, rfl⟩
          clear hd1
          by_cases hs : 0 ≤ s ∧ s ≤ 255
          · have hd2 : decide ((0 : Int) ≤ s ∧ s ≤ 255) = true := decide_eq_true hs
            have HI' : Hid (AllB rl (j + 1)) := allB_succ HI.out hjl (by rw [HF.out.1, HF.out.2]; exact ⟨hf, hs⟩)
            clear hf hs HI
            go_wp2_with fail
            refine (inS 0 255 s true hd2 _).mono ?_
            rintro e w2 ⟨rfl, rfl⟩
            clear hd2
            go_wp2
            go_roundg (gk - 1)
            case measure => omega
            case rel => exact ⟨j + 1, by omega, by go_num, HI', rfl⟩
          · have hd2 : decide ((0 : Int) ≤ s ∧ s ≤ 255) = false := decide_eq_false hs
            have HE : Hid (b = false) := not_code HB.out j hjl (by rw [HF.out.1, HF.out.2]; exact fun h => hs h.2)
            clear hf hs HI
            go_wp2_with fail
            refine (inS 0 255 s false hd2 _).mono ?_
            rintro e w2 ⟨rfl, rfl⟩
            clear hd2
            go_wp2
            go_ret
            exact ⟨by rw [HE.out]; rfl, rfl⟩
        · have hd1 : decide ((0 : Int) ≤ f ∧ f ≤ 255) = false := decide_eq_false hf
          have HE : Hid (b = false) := not_code HB.out j hjl (by rw [HF.out.1, HF.out.2]; exact fun h => hf h.1)
          clear hf HI
          go_wp2_with fail
          refine (inS 0 255 f false hd1 _).mono ?_
          rintro e w1 ⟨rfl, rfl⟩
          clear hd1
          go_wp2
          go_ret
          exact ⟨by rw [HE.out]; rfl, rfl⟩
      · by_cases hs : n ≤ 60
        · have HE : Hid (b = true) := HB.out.2 ⟨by have := HL.out; omega, fun i h => HI.out i h (by have := HL.out; omega)⟩
          have h60 : (n : Int) ≤ 60 := by omega
          go_wp2
          go_ret
          exact ⟨by rw [HE.out]; simp, rfl⟩
        · have HE : Hid (b = false) := not_long HB.out (by have := HL.out; omega)
          have h60 : ¬ (n : Int) ≤ 60 := by omega
          go_wp2
          go_ret
          exact ⟨by rw [HE.out]; simp, rfl⟩
  · obtain rfl : n = 0 := by omega
    have HE : Hid (b = true) := HB.out.2 ⟨by have := HL.out; omega, fun i h => by have := HL.out; omega⟩
    clear hr
    go_enter Try.func187, Try.ntmps187
    go_wp2
    go_rounds 1
    go_ret
    exact ⟨by rw [HE.out]; rfl, rfl⟩
end Go.Proofs.Ytfdhcchakoldpaa.I
