/-
  Machines: whether one is right, copies, an answer put on: the contracts of the program's and of the specification's.
-/
import Derived.Test.YthnocibkgpofnaaOpen6
import Derived.Test.YthnocibkgpofnaaOwnII
namespace Go.Proofs.Ythnocibkgpofnaa
open Go.RowKit Go.PlainAid
set_option linter.unusedVariables false

def isW (x : Int) : Prop := 0 ≤ x ∧ x ≤ 65535
/-- a right machine -/
def CpuR (pc : Int) (st : List Int) : Prop := st.length ≤ 8 ∧ (0 ≤ pc ∧ pc ≤ 60) ∧ ∀ i (h : i < st.length), isW st[i]
def AllW (st : List Int) (j : Nat) : Prop := ∀ i (h : i < st.length), i < j → isW st[i]
theorem allW_zero (st : List Int) : AllW st 0 := fun i _ h => by omega
theorem allW_succ {st : List Int} {j : Nat} (h : AllW st j) (hj : j < st.length) (hr : isW st[j]) : AllW st (j + 1) := fun i hi hlt => by
  by_cases e : i = j
  · subst e; exact hr
  · exact h i hi (by omega)
theorem cpu_bool (pc : Int) (st : List Int) : ∃ b : Bool, b = true ↔ CpuR pc st := by
  by_cases hk : CpuR pc st
  · exact ⟨true, ⟨fun _ => hk, fun _ => rfl⟩⟩
  · exact ⟨false, ⟨fun h => (by cases h), fun h => absurd h hk⟩⟩
theorem not_cpu {pc : Int} {st : List Int} {b : Bool} (hb : b = true ↔ CpuR pc st) (h : ¬ CpuR pc st) : b = false := by
  cases b
  · rfl
  · exact absurd (hb.1 rfl) h
theorem cpu_end {pc : Int} {st : List Int} {b : Bool} (hb : b = true ↔ CpuR pc st) (h1 : st.length ≤ 8) (h2 : AllW st st.length) : decide (0 ≤ pc ∧ pc ≤ 60) = b := by
  by_cases hp : 0 ≤ pc ∧ pc ≤ 60
  · rw [decide_eq_true hp]; exact (hb.2 ⟨h1, hp, fun i h => h2 i h h⟩).symm
  · rw [decide_eq_false hp]; exact (not_cpu hb (fun h => hp h.2.1)).symm

/-- what a call of a machine lays first: its box -/
theorem box2 (w : World) (x y : Value) (t : TypeId) : (w.alloc (.cells #[x, y] t)).heap[w.heap.size]? = some (.cells #[x, y] t) ∧ Below w.heap.size w (w.alloc (.cells #[x, y] t)) ∧ (w.alloc (.cells #[x, y] t)).heap.size = w.heap.size + 1 :=
  ⟨heap_new w _, (Below.refl _ _).alloc (Nat.le_refl _) _, by simp⟩

theorem cell_onW {W W' : World} {p : Addr} {v : Value} (h : W.cell? p = some v) (hb : Below W.heap.size W W') : W'.cell? p = some v := (hb.cell (World.block_lt_of_cell? W p h)).trans h
def WordsR (l : List Int) : Prop := ∀ i (h : i < l.length), isW l[i]
theorem words_bool (l : List Int) : ∃ b : Bool, b = true ↔ WordsR l := by
  by_cases hk : WordsR l
  · exact ⟨true, ⟨fun _ => hk, fun _ => rfl⟩⟩
  · exact ⟨false, ⟨fun h => (by cases h), fun h => absurd h hk⟩⟩
theorem not_that {Q : Prop} {b : Bool} (hb : b = true ↔ Q) (h : ¬ Q) : b = false := by
  cases b
  · rfl
  · exact absurd (hb.1 rfl) h
set_option maxRecDepth 100000 in
set_option maxHeartbeats 1000000 in
theorem wordsI (a : Option Addr) (l : List Int) (n cap : Nat) (b : Bool) (hl : l.length = n) (hn : n ≤ 9223372036854775807) (hb : b = true ↔ WordsR l) (w : World) (hr : Rd w a l) :
    Calls Try.prog 81 #[.slice a n cap] w fun e w' => e = .returned (.bool b) ∧ Below w.heap.size w w' := by
  have HB : Hid (b = true ↔ WordsR l) := hb
  have HL : Hid (l.length = n) := hl
  have HR : Hid (Rd w a l) := hr
  clear hb hl hr
  go_enter Try.func81, Try.ntmps81
  go_wp2
  go_loopg [7] n (fun gk i wr => ∃ j : Nat, j + gk = n ∧ i = .int .i64 j ∧ Hid (AllW l j) ∧ Hid (Below w.heap.size w wr))
  case atStart => exact ⟨0, by omega, rfl, allW_zero l, Below.refl _ _⟩
  case round =>
    obtain ⟨j, hj, rfl, HI, HW⟩ := hrel
    by_cases hlt : j < n
    · have hjl : j < l.length := by have := HL.out; omega
      obtain ⟨g, off, ha, hc⟩ := HR.out (by omega)
      subst ha
      have c1 := cell_onW (hc j hjl) HW.out
      clear hc
      obtain ⟨x, hx⟩ : ∃ x, l[j] = x := ⟨_, rfl⟩
      rw [hx] at c1
      have HF : Hid (l[j] = x) := hx
      clear hx
      by_cases hf : 0 ≤ x ∧ x ≤ 65535
      · have hd : decide ((0 : Int) ≤ x ∧ x ≤ 65535) = true := decide_eq_true hf
        have HI' : Hid (AllW l (j + 1)) := allW_succ HI.out hjl (by rw [HF.out]; exact hf)
        clear hf HI
        go_wp2_with fail
        refine (holdsI 0 65535 x true hd _).mono ?_
        rintro e w1 ⟨rfl, hb1⟩
        have HW1 : Hid (Below w.heap.size w w1) := bel_on (Nat.le_refl _) HW.out hb1
        clear hb1
        clear hd
        go_wp2
        go_roundg (gk - 1)
        case measure => omega
        case rel => exact ⟨j + 1, by omega, by go_num, HI', HW1⟩
      · have hd : decide ((0 : Int) ≤ x ∧ x ≤ 65535) = false := decide_eq_false hf
        have HE : Hid (b = false) := not_that HB.out (fun h => hf (by have := h j hjl; rw [HF.out] at this; exact this))
        clear hf HI
        go_wp2_with fail
        refine (holdsI 0 65535 x false hd _).mono ?_
        rintro e w1 ⟨rfl, hb1⟩
        have HW1 : Hid (Below w.heap.size w w1) := bel_on (Nat.le_refl _) HW.out hb1
        clear hb1
        clear hd
        go_wp2
        go_ret
        exact ⟨by rw [HE.out]; rfl, HW1.out⟩
    · have HE : Hid (b = true) := HB.out.2 (fun i h => HI.out i h (by have := HL.out; omega))
      clear HI
      go_wp2
      go_ret
      exact ⟨by rw [HE.out]; rfl, HW.out⟩
set_option maxRecDepth 100000 in
set_option maxHeartbeats 1000000 in
theorem cpuokI (a : Option Addr) (pc : Int) (st : List Int) (n cap : Nat) (b : Bool) (hl : st.length = n) (hn : n ≤ 9223372036854775807) (hb : b = true ↔ CpuR pc st) (w : World) (hr : Rd w a st) :
    Calls Try.prog 73 #[.agg #[.int .i64 pc, .slice a n cap]] w fun e w' => e = .returned (.bool b) ∧ Below w.heap.size w w' := by
  have HB : Hid (b = true ↔ CpuR pc st) := hb
  have HL : Hid (st.length = n) := hl
  have HR : Hid (Rd w a st) := hr
  obtain ⟨h1, h2, h3⟩ := box2 w (.int .i64 pc) (.slice a n cap) 55
  have HX0 : Hid (_ = _) := h1
  have HW0 : Hid (Below _ _ _) := h2
  clear hb hl hr h1 h2 h3
  obtain ⟨x, hd⟩ : ∃ x, decide (0 ≤ pc ∧ pc ≤ 60) = x := ⟨_, rfl⟩
  have HD : Hid (decide (0 ≤ pc ∧ pc ≤ 60) = x) := hd
  go_enter Try.func73, Try.ntmps73
  go_wp2_with fail
  refine (holdsI 0 60 pc x hd _).mono ?_
  rintro e w1 ⟨rfl, hb1⟩
  have HW1 : Hid (Below w.heap.size w w1) := bel_on (Nat.le_refl _) HW0.out hb1
  have k1 := row2_cells (row_on HX0.out hb1)
  clear hb1 hd HX0 HW0
  cases x with
  | false =>
    have HE : Hid (b = false) := not_that HB.out (fun h => by have h1 := HD.out; rw [decide_eq_true h.2.1] at h1; cases h1)
    go_wp2
    go_ret
    exact ⟨by rw [HE.out]; rfl, HW1.out⟩
  | true =>
    have HP : Hid (0 ≤ pc ∧ pc ≤ 60) := (of_decide_eq_true HD.out : (0 ≤ pc ∧ pc ≤ 60))
    clear HD
    by_cases h8 : n ≤ 8
    · obtain ⟨c, hc⟩ := words_bool st
      have HC : Hid (c = true ↔ WordsR st) := hc
      have HE : Hid (c = b) := by
        show c = b
        by_cases hk : WordsR st
        · rw [HC.out.2 hk, HB.out.2 ⟨by rw [HL.out]; exact h8, HP.out, hk⟩]
        · rw [not_that HC.out hk, not_that HB.out (fun h => hk h.2.2)]
      have h8' : (n : Int) ≤ 8 := by omega
      clear hc
      go_wp2_with fail
      refine (wordsI a st n cap c HL.out hn HC.out _ (HR.out.keep HW1.out (Nat.le_refl _))).mono ?_
      rintro e w2 ⟨rfl, hb2⟩
      have HW2 : Hid (Below w.heap.size w w2) := bel_on (Nat.le_refl _) HW1.out hb2
      clear hb2
      go_wp2
      go_ret
      exact ⟨by rw [HE.out]; rfl, HW2.out⟩
    · have HE : Hid (b = false) := not_that HB.out (fun h => h8 (by have := h.1; rw [HL.out] at this; exact this))
      have h8' : ¬ (n : Int) ≤ 8 := by omega
      go_wp2
      go_ret
      exact ⟨by rw [HE.out]; rfl, HW1.out⟩
theorem cpu_endS {pc : Int} {st : List Int} {b : Bool} (hb : b = true ↔ CpuR pc st) (h2 : AllW st st.length) : (if 0 ≤ pc ∧ pc ≤ 60 then decide (st.length ≤ 8) else false) = b := by
  by_cases hp : 0 ≤ pc ∧ pc ≤ 60
  · rw [if_pos hp]
    by_cases h1 : st.length ≤ 8
    · rw [decide_eq_true h1]; exact (hb.2 ⟨h1, hp, fun i h => h2 i h h⟩).symm
    · rw [decide_eq_false h1]; exact (not_cpu hb (fun h => h1 h.1)).symm
  · rw [if_neg hp]; exact (not_cpu hb (fun h => hp h.2.1)).symm

set_option maxRecDepth 100000 in
set_option maxHeartbeats 1000000 in
theorem cpuokS (a : Option Addr) (pc : Int) (st : List Int) (n cap : Nat) (b : Bool) (hl : st.length = n) (hn : n ≤ 9223372036854775807) (hb : b = true ↔ CpuR pc st) (w : World) (hr : Rd w a st) :
    Calls Try.prog 53 #[.agg #[.int .i64 pc, .slice a n cap]] w fun e w' => e = .returned (.bool b) ∧ Below w.heap.size w w' := by
  have HB : Hid (b = true ↔ CpuR pc st) := hb
  have HL : Hid (st.length = n) := hl
  have HR : Hid (Rd w a st) := hr
  obtain ⟨h1, h2, h3⟩ := box2 w (.int .i64 pc) (.slice a n cap) 55
  have HX : Hid (_ = _) := h1
  have HW0 : Hid (Below _ _ _) := h2
  clear hb hl hr h1 h2 h3
  go_enter Try.func53, Try.ntmps53
  go_wp2
  go_loopg [3] n (fun gk i wr => ∃ j : Nat, j + gk = n ∧ i = .int .i64 j ∧ Hid (AllW st j) ∧ Hid (Below w.heap.size w wr) ∧ Hid (wr.heap[w.heap.size]? = some (.cells #[.int .i64 pc, .slice a n cap] 55)))
  case atStart => exact ⟨0, by omega, rfl, allW_zero st, HW0, HX⟩
  case round =>
    clear HW0 HX
    obtain ⟨j, hj, rfl, HI, HW, HX⟩ := hrel
    have k1 := row2_cells HX.out
    by_cases hlt : j < n
    · have hjl : j < st.length := by have := HL.out; omega
      obtain ⟨g, off, ha, hc⟩ := HR.out (by omega)
      subst ha
      have c1 := (HW.out.cell (p := ⟨g, off + j, none⟩) (World.block_lt_of_cell? w ⟨g, off + j, none⟩ (hc j hjl))).trans (hc j hjl)
      clear hc
      obtain ⟨x, hx⟩ : ∃ x, st[j] = x := ⟨_, rfl⟩
      rw [hx] at c1
      have HF : Hid (st[j] = x) := hx
      clear hx
      by_cases hf : 0 ≤ x ∧ x ≤ 65535
      · have hd : decide ((0 : Int) ≤ x ∧ x ≤ 65535) = true := decide_eq_true hf
        have HI' : Hid (AllW st (j + 1)) := allW_succ HI.out hjl (by rw [HF.out]; exact hf)
        clear hf HI
        go_wp2_with fail
        refine (inS 0 65535 x true hd _).mono ?_
        rintro e w1 ⟨rfl, rfl⟩
        clear hd
        go_wp2
        go_roundg (gk - 1)
        case measure => omega
        case rel => exact ⟨j + 1, by omega, by go_num, HI', HW, HX⟩
      · have hd : decide ((0 : Int) ≤ x ∧ x ≤ 65535) = false := decide_eq_false hf
        have HE : Hid (b = false) := not_cpu HB.out (fun h => hf (by have := h.2.2 j hjl; rw [HF.out] at this; exact this))
        clear hf HI
        go_wp2_with fail
        refine (inS 0 65535 x false hd _).mono ?_
        rintro e w1 ⟨rfl, rfl⟩
        clear hd
        go_wp2
        go_ret
        exact ⟨by rw [HE.out]; rfl, HW.out⟩
    · have HE : Hid ((if 0 ≤ pc ∧ pc ≤ 60 then decide (n ≤ 8) else false) = b) := by have := cpu_endS HB.out (fun i h _ => HI.out i h (by have := HL.out; omega)); rw [HL.out] at this; exact this
      clear HI
      by_cases hp : 0 ≤ pc ∧ pc ≤ 60
      · have hd : decide ((0 : Int) ≤ pc ∧ pc ≤ 60) = true := decide_eq_true hp
        have HE2 : Hid (decide (n ≤ 8) = b) := by have := HE.out; rw [if_pos hp] at this; exact this
        clear HE hp
        go_wp2_with fail
        refine (inS 0 60 pc true hd _).mono ?_
        rintro e w1 ⟨rfl, rfl⟩
        clear hd
        go_wp2
        go_ret
        exact ⟨by rw [← HE2.out]; simp; omega, HW.out⟩
      · have hd : decide ((0 : Int) ≤ pc ∧ pc ≤ 60) = false := decide_eq_false hp
        have HE2 : Hid (false = b) := by have := HE.out; rw [if_neg hp] at this; exact this
        clear HE hp
        go_wp2_with fail
        refine (inS 0 60 pc false hd _).mono ?_
        rintro e w1 ⟨rfl, rfl⟩
        clear hd
        go_wp2
        go_ret
        exact ⟨by rw [← HE2.out]; rfl, HW.out⟩
end Go.Proofs.Ythnocibkgpofnaa
