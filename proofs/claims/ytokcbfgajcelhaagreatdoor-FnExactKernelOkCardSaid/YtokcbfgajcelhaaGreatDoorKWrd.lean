/-
  Words, machines, parts and lines that are right: the program and the specification.
-/
import Derived.Test.YtokcbfgajcelhaaGreatDoorKer
namespace Go.Proofs.YtokcbfgajcelhaaGreatDoor
open Go.ChangeShapes Go.WideShapes Go.ChangeAt Go.RowKit Go.PlainAid
set_option linter.unusedVariables false

def isW (x : Int) : Prop := 0 ≤ x ∧ x ≤ 65535
/-- a right machine -/
def CpuR (pc : Int) (st : List Int) : Prop := st.length ≤ 8 ∧ (0 ≤ pc ∧ pc ≤ 60) ∧ ∀ i (h : i < st.length), isW st[i]
def AllW (st : List Int) (j : Nat) : Prop := ∀ i (h : i < st.length), i < j → isW st[i]
theorem allW_zero (st : List Int) : AllW st 0 := fun i _ h => by omega
theorem allW_succ {st : List Int} {j : Nat} (h : AllW st j) (hj : j < st.length) (hr : isW st[j]) : AllW st (j + 1) := fun i hi hlt => by
  by_cases e : i = j
  · subst e; exact hr
  · exact h i hi (by omega)
theorem cpu_bool (pc : Int) (st : List Int) : ∃ b : Bool, b = true ↔ CpuR pc st := by
  by_cases hk : CpuR pc st
  · exact ⟨true, ⟨fun _ => hk, fun _ => rfl⟩⟩
  · exact ⟨false, ⟨fun h => (by cases h), fun h => absurd h hk⟩⟩
theorem not_cpu {pc : Int} {st : List Int} {b : Bool} (hb : b = true ↔ CpuR pc st) (h : ¬ CpuR pc st) : b = false := by
  cases b
  · rfl
  · exact absurd (hb.1 rfl) h
/-- what a call of a machine lays first: its box -/
theorem box2 (w : World) (x y : Value) (t : TypeId) : (w.alloc (.cells #[x, y] t)).heap[w.heap.size]? = some (.cells #[x, y] t) ∧ Below w.heap.size w (w.alloc (.cells #[x, y] t)) ∧ (w.alloc (.cells #[x, y] t)).heap.size = w.heap.size + 1 :=
  ⟨heap_new w _, (Below.refl _ _).alloc (Nat.le_refl _) _, by simp⟩
theorem cpu_endS {pc : Int} {st : List Int} {b : Bool} (hb : b = true ↔ CpuR pc st) (h2 : AllW st st.length) : (if 0 ≤ pc ∧ pc ≤ 60 then decide (st.length ≤ 8) else false) = b := by
  by_cases hp : 0 ≤ pc ∧ pc ≤ 60
  · rw [if_pos hp]
    by_cases h1 : st.length ≤ 8
    · rw [decide_eq_true h1]; exact (hb.2 ⟨h1, hp, fun i h => h2 i h h⟩).symm
    · rw [decide_eq_false h1]; exact (not_cpu hb (fun h => h1 h.1)).symm
  · rw [if_neg hp]; exact (not_cpu hb (fun h => hp h.2.1)).symm
set_option maxRecDepth 100000 in
set_option maxHeartbeats 1000000 in
theorem cpuokS (a : Option Addr) (pc : Int) (st : List Int) (n cap : Nat) (b : Bool) (hl : st.length = n) (hn : n ≤ 9223372036854775807) (hb : b = true ↔ CpuR pc st) (w : World) (hr : Rd w a st) :
    Calls Tryz.prog 90 #[.agg #[.int .i64 pc, .slice a n cap]] w fun e w' => e = .returned (.bool b) ∧ Below w.heap.size w w' := by
  have HB : Hid (b = true ↔ CpuR pc st) := hb
  have HL : Hid (st.length = n) := hl
  have HR : Hid (Rd w a st) := hr
  obtain ⟨h1, h2, h3⟩ := box2 w (.int .i64 pc) (.slice a n cap) 53
  have HX : Hid (_ = _) := h1
  have HW0 : Hid (Below _ _ _) := h2
  clear hb hl hr h1 h2 h3
  go_enter Tryz.func90, Tryz.ntmps90
  go_wp2
  go_loopg [3] n (fun gk i wr => ∃ j : Nat, j + gk = n ∧ i = .int .i64 j ∧ Hid (AllW st j) ∧ Hid (Below w.heap.size w wr) ∧ Hid (wr.heap[w.heap.size]? = some (.cells #[.int .i64 pc, .slice a n cap] 53)))
  case atStart => exact ⟨0, by omega, rfl, allW_zero st, HW0, HX⟩
  case round =>
    clear HW0 HX
    obtain ⟨j, hj, rfl, HI, HW, HX⟩ := hrel
    have k1 := row2_cells HX.out
    by_cases hlt : j < n
    · have hjl : j < st.length := by have := HL.out; omega
      obtain ⟨g, off, ha, hc⟩ := HR.out (by omega)
      subst ha
      have c1 := (HW.out.cell (p := ⟨g, off + j, none⟩) (World.block_lt_of_cell? w ⟨g, off + j, none⟩ (hc j hjl))).trans (hc j hjl)
      clear hc
      obtain ⟨x, hx⟩ : ∃ x, st[j] = x := ⟨_, rfl⟩
      rw [hx] at c1
      have HF : Hid (st[j] = x) := hx
      clear hx
      by_cases hf : 0 ≤ x ∧ x ≤ 65535
      · have hd : decide ((0 : Int) ≤ x ∧ x ≤ 65535) = true := decide_eq_true hf
        have HI' : Hid (AllW st (j + 1)) := allW_succ HI.out hjl (by rw [HF.out]; exact hf)
        clear hf HI
        go_wp2_with fail
        refine (inS 0 65535 x true hd _).mono ?_
        rintro e w1 ⟨rfl, rfl⟩
        clear hd
        go_wp2
        go_roundg (gk - 1)
        case measure => omega
        case rel => exact ⟨j + 1, by omega, by go_num, HI', HW, HX⟩
      · have hd : decide ((0 : Int) ≤ x ∧ x ≤ 65535) = false := decide_eq_false hf
        have HE : Hid (b = false) := not_cpu HB.out (fun h => hf (by have := h.2.2 j hjl; rw [HF.out] at this; exact this))
        clear hf HI
        go_wp2_with fail
        refine (inS 0 65535 x false hd _).mono ?_
        rintro e w1 ⟨rfl, rfl⟩
        clear hd
        go_wp2
        go_ret
        exact ⟨by rw [HE.out]; rfl, HW.out⟩
    · have HE : Hid ((if 0 ≤ pc ∧ pc ≤ 60 then decide (n ≤ 8) else false) = b) := by have := cpu_endS HB.out (fun i h _ => HI.out i h (by have := HL.out; omega)); rw [HL.out] at this; exact this
      clear HI
      by_cases hp : 0 ≤ pc ∧ pc ≤ 60
      · have hd : decide ((0 : Int) ≤ pc ∧ pc ≤ 60) = true := decide_eq_true hp
        have HE2 : Hid (decide (n ≤ 8) = b) := by have := HE.out; rw [if_pos hp] at this; exact this
        clear HE hp
        go_wp2_with fail
        refine (inS 0 60 pc true hd _).mono ?_
        rintro e w1 ⟨rfl, rfl⟩
        clear hd
        go_wp2
        go_ret
        exact ⟨by rw [← HE2.out]; simp; omega, HW.out⟩
      · have hd : decide ((0 : Int) ≤ pc ∧ pc ≤ 60) = false := decide_eq_false hp
        have HE2 : Hid (false = b) := by have := HE.out; rw [if_neg hp] at this; exact this
        clear HE hp
        go_wp2_with fail
        refine (inS 0 60 pc false hd _).mono ?_
        rintro e w1 ⟨rfl, rfl⟩
        clear hd
        go_wp2
        go_ret
        exact ⟨by rw [← HE2.out]; rfl, HW.out⟩
def WordsR (l : List Int) : Prop := ∀ i (h : i < l.length), isW l[i]
theorem words_bool (l : List Int) : ∃ b : Bool, b = true ↔ WordsR l := by
  by_cases hk : WordsR l
  · exact ⟨true, ⟨fun _ => hk, fun _ => rfl⟩⟩
  · exact ⟨false, ⟨fun h => (by cases h), fun h => absurd h hk⟩⟩
theorem not_that {Q : Prop} {b : Bool} (hb : b = true ↔ Q) (h : ¬ Q) : b = false := by
  cases b
  · rfl
  · exact absurd (hb.1 rfl) h
set_option maxRecDepth 100000 in
set_option maxHeartbeats 1000000 in
theorem wordsS (a : Option Addr) (l : List Int) (n cap : Nat) (b : Bool) (hl : l.length = n) (hn : n ≤ 9223372036854775807) (hb : b = true ↔ WordsR l) (w : World) (hr : Rd w a l) :
    Calls Tryz.prog 89 #[.slice a n cap] w fun e w' => e = .returned (.bool b) ∧ w' = w := by
  have HB : Hid (b = true ↔ WordsR l) := hb
  have HL : Hid (l.length = n) := hl
  have HR : Hid (Rd w a l) := hr
  clear hb hl hr
  go_enter Tryz.func89, Tryz.ntmps89
  go_wp2
  go_loopg [3] n (fun gk i wr => ∃ j : Nat, j + gk = n ∧ i = .int .i64 j ∧ Hid (AllW l j) ∧ wr = w)
  case atStart => exact ⟨0, by omega, rfl, allW_zero l, rfl⟩
  case round =>
    obtain ⟨j, hj, rfl, HI, rfl⟩ := hrel
    by_cases hlt : j < n
    · have hjl : j < l.length := by have := HL.out; omega
      obtain ⟨g, off, ha, hc⟩ := HR.out (by omega)
      subst ha
      have c1 := hc j hjl
      clear hc
      obtain ⟨x, hx⟩ : ∃ x, l[j] = x := ⟨_, rfl⟩
      rw [hx] at c1
      have HF : Hid (l[j] = x) := hx
      clear hx
      by_cases hf : 0 ≤ x ∧ x ≤ 65535
      · have hd : decide ((0 : Int) ≤ x ∧ x ≤ 65535) = true := decide_eq_true hf
        have HI' : Hid (AllW l (j + 1)) := allW_succ HI.out hjl (by rw [HF.out]; exact hf)
        clear hf HI
        go_wp2_with fail
        refine (inS 0 65535 x true hd _).mono ?_
        rintro e w1 ⟨rfl, rfl⟩
        clear hd
        go_wp2
        go_roundg (gk - 1)
        case measure => omega
        case rel => exact ⟨j + 1, by omega, by go_num, HI', rfl⟩
      · have hd : decide ((0 : Int) ≤ x ∧ x ≤ 65535) = false := decide_eq_false hf
        have HE : Hid (b = false) := not_that HB.out (fun h => hf (by have := h j hjl; rw [HF.out] at this; exact this))
        clear hf HI
        go_wp2_with fail
        refine (inS 0 65535 x false hd _).mono ?_
        rintro e w1 ⟨rfl, rfl⟩
        clear hd
        go_wp2
        go_ret
        exact ⟨by rw [HE.out]; rfl, rfl⟩
    · have HE : Hid (b = true) := HB.out.2 (fun i h => HI.out i h (by have := HL.out; omega))
      clear HI
      go_wp2
      go_ret
      exact ⟨by rw [HE.out]; rfl, rfl⟩
set_option maxRecDepth 100000 in
set_option maxHeartbeats 1000000 in
theorem wordsI (a : Option Addr) (l : List Int) (n cap : Nat) (b : Bool) (hl : l.length = n) (hn : n ≤ 9223372036854775807) (hb : b = true ↔ WordsR l) (w : World) (hr : Rd w a l) :
    Calls Tryz.prog 56 #[.slice a n cap] w fun e w' => e = .returned (.bool b) ∧ Below w.heap.size w w' := by
  have HB : Hid (b = true ↔ WordsR l) := hb
  have HL : Hid (l.length = n) := hl
  have HR : Hid (Rd w a l) := hr
  clear hb hl hr
  go_enter Tryz.func56, Tryz.ntmps56
  go_wp2
  go_loopg [7] n (fun gk i wr => ∃ j : Nat, j + gk = n ∧ i = .int .i64 j ∧ Hid (AllW l j) ∧ Hid (Below w.heap.size w wr))
  case atStart => exact ⟨0, by omega, rfl, allW_zero l, Below.refl _ _⟩
  case round =>
    obtain ⟨j, hj, rfl, HI, HW⟩ := hrel
    by_cases hlt : j < n
    · have hjl : j < l.length := by have := HL.out; omega
      obtain ⟨g, off, ha, hc⟩ := HR.out (by omega)
      subst ha
      have c1 := cell_on (hc j hjl) HW.out
      clear hc
      obtain ⟨x, hx⟩ : ∃ x, l[j] = x := ⟨_, rfl⟩
      rw [hx] at c1
      have HF : Hid (l[j] = x) := hx
      clear hx
      by_cases hf : 0 ≤ x ∧ x ≤ 65535
      · have hd : decide ((0 : Int) ≤ x ∧ x ≤ 65535) = true := decide_eq_true hf
        have HI' : Hid (AllW l (j + 1)) := allW_succ HI.out hjl (by rw [HF.out]; exact hf)
        clear hf HI
        go_wp2_with fail
        refine (holdsI 0 65535 x true hd _).mono ?_
        rintro e w1 ⟨rfl, hb1⟩
        have HW1 : Hid (Below w.heap.size w w1) := bel_on (Nat.le_refl _) HW.out hb1
        clear hb1
        clear hd
        go_wp2
        go_roundg (gk - 1)
        case measure => omega
        case rel => exact ⟨j + 1, by omega, by go_num, HI', HW1⟩
      · have hd : decide ((0 : Int) ≤ x ∧ x ≤ 65535) = false := decide_eq_false hf
        have HE : Hid (b = false) := not_that HB.out (fun h => hf (by have := h j hjl; rw [HF.out] at this; exact this))
        clear hf HI
        go_wp2_with fail
        refine (holdsI 0 65535 x false hd _).mono ?_
        rintro e w1 ⟨rfl, hb1⟩
        have HW1 : Hid (Below w.heap.size w w1) := bel_on (Nat.le_refl _) HW.out hb1
        clear hb1
        clear hd
        go_wp2
        go_ret
        exact ⟨by rw [HE.out]; rfl, HW1.out⟩
    · have HE : Hid (b = true) := HB.out.2 (fun i h => HI.out i h (by have := HL.out; omega))
      clear HI
      go_wp2
      go_ret
      exact ⟨by rw [HE.out]; rfl, HW.out⟩
theorem numI (x : Int) (b : Bool) (hb : decide (0 ≤ x ∧ x ≤ 1000000000) = b) (w : World) : Calls Tryz.prog 59 #[.int .i64 x] w fun e w' => e = .returned (.bool b) ∧ Below w.heap.size w w' := by
  go_enter Tryz.func59, Tryz.ntmps59
  go_wp2_with fail
  refine (holdsI 0 1000000000 x b hb _).mono ?_
  rintro e w1 ⟨rfl, hb1⟩
  have HB : Hid (Below w.heap.size w w1) := hb1
  clear hb1
  go_wp2
  go_ret
  exact ⟨rfl, HB.out⟩
set_option maxRecDepth 100000 in
set_option maxHeartbeats 1000000 in
theorem cpuokI (a : Option Addr) (pc : Int) (st : List Int) (n cap : Nat) (b : Bool) (hl : st.length = n) (hn : n ≤ 9223372036854775807) (hb : b = true ↔ CpuR pc st) (w : World) (hr : Rd w a st) :
    Calls Tryz.prog 216 #[.agg #[.int .i64 pc, .slice a n cap]] w fun e w' => e = .returned (.bool b) ∧ Below w.heap.size w w' := by
  have HB : Hid (b = true ↔ CpuR pc st) := hb
  have HL : Hid (st.length = n) := hl
  have HR : Hid (Rd w a st) := hr
  obtain ⟨h1, h2, h3⟩ := box2 w (.int .i64 pc) (.slice a n cap) 53
  have HX0 : Hid (_ = _) := h1
  have HW0 : Hid (Below _ _ _) := h2
  clear hb hl hr h1 h2 h3
  obtain ⟨x, hd⟩ : ∃ x, decide (0 ≤ pc ∧ pc ≤ 60) = x := ⟨_, rfl⟩
  have HD : Hid (decide (0 ≤ pc ∧ pc ≤ 60) = x) := hd
  go_enter Tryz.func216, Tryz.ntmps216
  go_wp2_with fail
  refine (holdsI 0 60 pc x hd _).mono ?_
  rintro e w1 ⟨rfl, hb1⟩
  have HW1 : Hid (Below w.heap.size w w1) := bel_on (Nat.le_refl _) HW0.out hb1
  have k1 := row2_cells (row_on HX0.out hb1)
  clear hb1 hd HX0 HW0
  cases x with
  | false =>
    have HE : Hid (b = false) := not_that HB.out (fun h => by have h1 := HD.out; rw [decide_eq_true h.2.1] at h1; cases h1)
    go_wp2
    go_ret
    exact ⟨by rw [HE.out]; rfl, HW1.out⟩
  | true =>
    have HP : Hid (0 ≤ pc ∧ pc ≤ 60) := (of_decide_eq_true HD.out : (0 ≤ pc ∧ pc ≤ 60))
    clear HD
    by_cases h8 : n ≤ 8
    · obtain ⟨c, hc⟩ := words_bool st
      have HC : Hid (c = true ↔ WordsR st) := hc
      have HE : Hid (c = b) := by
        show c = b
        by_cases hk : WordsR st
        · rw [HC.out.2 hk, HB.out.2 ⟨by rw [HL.out]; exact h8, HP.out, hk⟩]
        · rw [not_that HC.out hk, not_that HB.out (fun h => hk h.2.2)]
      have h8' : (n : Int) ≤ 8 := by omega
      clear hc
      go_wp2_with fail
      refine (wordsI a st n cap c HL.out hn HC.out _ (HR.out.keep HW1.out (Nat.le_refl _))).mono ?_
      rintro e w2 ⟨rfl, hb2⟩
      have HW2 : Hid (Below w.heap.size w w2) := bel_on (Nat.le_refl _) HW1.out hb2
      clear hb2
      go_wp2
      go_ret
      exact ⟨by rw [HE.out]; rfl, HW2.out⟩
    · have HE : Hid (b = false) := not_that HB.out (fun h => h8 (by have := h.1; rw [HL.out] at this; exact this))
      have h8' : ¬ (n : Int) ≤ 8 := by omega
      go_wp2
      go_ret
      exact ⟨by rw [HE.out]; rfl, HW1.out⟩
/-- a part that is right -/
def numR (x : Int) : Prop := 0 ≤ x ∧ x ≤ 1000000000
def PartR (p : PX) : Prop := (0 ≤ p.st ∧ p.st ≤ 1) ∧ CpuR p.pc p.sk ∧ numR p.ss ∧ numR p.en ∧ numR p.la
theorem part_bool (p : PX) : ∃ b : Bool, b = true ↔ PartR p := by
  by_cases hk : PartR p
  · exact ⟨true, ⟨fun _ => hk, fun _ => rfl⟩⟩
  · exact ⟨false, ⟨fun h => (by cases h), fun h => absurd h hk⟩⟩
set_option maxRecDepth 100000 in
set_option maxHeartbeats 2000000 in
theorem rightI (st pc ss en la : Int) (a : Option Addr) (sk : List Int) (n cap : Nat) (b : Bool) (hl : sk.length = n) (hn : n ≤ 9223372036854775807) (hb : b = true ↔ PartR ⟨st, pc, sk, ss, en, la⟩) (w : World) (hr : Rd w a sk) :
    Calls Tryz.prog 143 #[.agg #[.int .i64 st, .int .i64 pc, .slice a n cap, .int .i64 ss, .int .i64 en, .int .i64 la]] w fun e w' => e = .returned (.bool b) ∧ Below w.heap.size w w' := by
  have HB : Hid (b = true ↔ PartR ⟨st, pc, sk, ss, en, la⟩) := hb
  have HL : Hid (sk.length = n) := hl
  have HI0 : Hid ((w.alloc (.cells #[.int .i64 st, .int .i64 pc, .slice a n cap, .int .i64 ss, .int .i64 en, .int .i64 la] 55)).heap[w.heap.size]? = some (.cells #[.int .i64 st, .int .i64 pc, .slice a n cap, .int .i64 ss, .int .i64 en, .int .i64 la] 55)) := heap_new w _
  have HW0 : Hid (Below w.heap.size w (w.alloc (.cells #[.int .i64 st, .int .i64 pc, .slice a n cap, .int .i64 ss, .int .i64 en, .int .i64 la] 55))) := (Below.refl _ _).alloc (Nat.le_refl _) _
  have HR : Hid (Rd (w.alloc (.cells #[.int .i64 st, .int .i64 pc, .slice a n cap, .int .i64 ss, .int .i64 en, .int .i64 la] 55)) a sk) := hr.keep HW0.out (Nat.le_refl _)
  clear hb hl hr
  by_cases hs : 0 ≤ st ∧ st ≤ 1
  · obtain ⟨c, hc⟩ := cpu_bool pc sk
    have HC : Hid (c = true ↔ CpuR pc sk) := hc
    obtain ⟨x1, hx1⟩ : ∃ x, decide (0 ≤ ss ∧ ss ≤ 1000000000) = x := ⟨_, rfl⟩
    obtain ⟨x2, hx2⟩ : ∃ x, decide (0 ≤ en ∧ en ≤ 1000000000) = x := ⟨_, rfl⟩
    obtain ⟨x3, hx3⟩ : ∃ x, decide (0 ≤ la ∧ la ≤ 1000000000) = x := ⟨_, rfl⟩
    have HE : Hid (b = (c && x1 && x2 && x3)) := by
      show b = _
      rw [← hx1, ← hx2, ← hx3]
      by_cases hk : PartR ⟨st, pc, sk, ss, en, la⟩
      · have h3 : c = true := HC.out.2 hk.2.1
        have h4 : 0 ≤ ss ∧ ss ≤ 1000000000 := hk.2.2.1
        have h5 : 0 ≤ en ∧ en ≤ 1000000000 := hk.2.2.2.1
        have h6 : 0 ≤ la ∧ la ≤ 1000000000 := hk.2.2.2.2
        rw [HB.out.2 hk, h3, decide_eq_true h4, decide_eq_true h5, decide_eq_true h6]
        rfl
      · rw [not_that HB.out hk]
        cases hcc : c with
        | false => rfl
        | true =>
          by_cases h4 : 0 ≤ ss ∧ ss ≤ 1000000000
          · by_cases h5 : 0 ≤ en ∧ en ≤ 1000000000
            · by_cases h6 : 0 ≤ la ∧ la ≤ 1000000000
              · exact absurd ⟨hs, HC.out.1 hcc, h4, h5, h6⟩ hk
              · simp only [decide_eq_false h6, Bool.and_false]
            · simp only [decide_eq_false h5, Bool.and_false, Bool.false_and]
          · simp only [decide_eq_false h4, Bool.and_false, Bool.false_and]
    have h01 : st = 0 ∨ st = 1 := by omega
    clear hc hs
    rcases h01 with rfl | rfl
    · go_enter Tryz.func143, Tryz.ntmps143
      go_wp2_with fail
      refine (cpuokI a pc sk n cap c HL.out hn HC.out _ HR.out).mono ?_
      rintro e w1 ⟨rfl, hb1⟩
      have HI1 : Hid (w1.heap[w.heap.size]? = some (.cells #[.int .i64 0, .int .i64 pc, .slice a n cap, .int .i64 ss, .int .i64 en, .int .i64 la] 55)) := row_on HI0.out hb1
      have k1 := box6_cells HI1.out
      have HW1 : Hid (Below w.heap.size w w1) := bel_on (Nat.le_refl _) HW0.out hb1
      clear hb1 HI0 HW0 HR HB HC
      cases c with
      | false =>
        have HE' : Hid (b = false) := by show b = false; have := HE.out; simpa using this
        clear HE
        go_wp2
        go_ret
        exact ⟨by rw [HE'.out]; rfl, HW1.out⟩
      | true =>
        go_wp2_with fail
        refine (numI ss x1 hx1 _).mono ?_
        rintro e w2 ⟨rfl, hb2⟩
        have HW2 : Hid (Below w.heap.size w w2) := bel_on (Nat.le_refl _) HW1.out hb2
        have HI2 : Hid (w2.heap[w.heap.size]? = some (.cells #[.int .i64 0, .int .i64 pc, .slice a n cap, .int .i64 ss, .int .i64 en, .int .i64 la] 55)) := row_on HI1.out hb2
        have k2 := box6_cells HI2.out
        clear hb2 HI1 k1 HW1
        cases x1 with
        | false =>
          have HE' : Hid (b = false) := by show b = false; have := HE.out; simpa using this
          clear HE
          go_wp2
          go_ret
          exact ⟨by rw [HE'.out]; rfl, HW2.out⟩
        | true =>
          go_wp2_with fail
          refine (numI en x2 hx2 _).mono ?_
          rintro e w3 ⟨rfl, hb3⟩
          have HW3 : Hid (Below w.heap.size w w3) := bel_on (Nat.le_refl _) HW2.out hb3
          have k3 := box6_cells (row_on HI2.out hb3)
          clear hb3 HI2 k2 HW2
          cases x2 with
          | false =>
            have HE' : Hid (b = false) := by show b = false; have := HE.out; simpa using this
            clear HE
            go_wp2
            go_ret
            exact ⟨by rw [HE'.out]; rfl, HW3.out⟩
          | true =>
            have HE' : Hid (b = x3) := by show b = x3; have := HE.out; simpa using this
            clear HE
            go_wp2_with fail
            refine (numI la x3 hx3 _).mono ?_
            rintro e w4 ⟨rfl, hb4⟩
            have HW4 : Hid (Below w.heap.size w w4) := bel_on (Nat.le_refl _) HW3.out hb4
            clear hb4
            go_wp2
            go_ret
            exact ⟨by rw [HE'.out]; rfl, HW4.out⟩
    · go_enter Tryz.func143, Tryz.ntmps143
      go_wp2_with fail
      refine (cpuokI a pc sk n cap c HL.out hn HC.out _ HR.out).mono ?_
      rintro e w1 ⟨rfl, hb1⟩
      have HI1 : Hid (w1.heap[w.heap.size]? = some (.cells #[.int .i64 1, .int .i64 pc, .slice a n cap, .int .i64 ss, .int .i64 en, .int .i64 la] 55)) := row_on HI0.out hb1
      have k1 := box6_cells HI1.out
      have HW1 : Hid (Below w.heap.size w w1) := bel_on (Nat.le_refl _) HW0.out hb1
      clear hb1 HI0 HW0 HR HB HC
      cases c with
      | false =>
        have HE' : Hid (b = false) := by show b = false; have := HE.out; simpa using this
        clear HE
        go_wp2
        go_ret
        exact ⟨by rw [HE'.out]; rfl, HW1.out⟩
      | true =>
        go_wp2_with fail
        refine (numI ss x1 hx1 _).mono ?_
        rintro e w2 ⟨rfl, hb2⟩
        have HW2 : Hid (Below w.heap.size w w2) := bel_on (Nat.le_refl _) HW1.out hb2
        have HI2 : Hid (w2.heap[w.heap.size]? = some (.cells #[.int .i64 1, .int .i64 pc, .slice a n cap, .int .i64 ss, .int .i64 en, .int .i64 la] 55)) := row_on HI1.out hb2
        have k2 := box6_cells HI2.out
        clear hb2 HI1 k1 HW1
        cases x1 with
        | false =>
          have HE' : Hid (b = false) := by show b = false; have := HE.out; simpa using this
          clear HE
          go_wp2
          go_ret
          exact ⟨by rw [HE'.out]; rfl, HW2.out⟩
        | true =>
          go_wp2_with fail
          refine (numI en x2 hx2 _).mono ?_
          rintro e w3 ⟨rfl, hb3⟩
          have HW3 : Hid (Below w.heap.size w w3) := bel_on (Nat.le_refl _) HW2.out hb3
          have k3 := box6_cells (row_on HI2.out hb3)
          clear hb3 HI2 k2 HW2
          cases x2 with
          | false =>
            have HE' : Hid (b = false) := by show b = false; have := HE.out; simpa using this
            clear HE
            go_wp2
            go_ret
            exact ⟨by rw [HE'.out]; rfl, HW3.out⟩
          | true =>
            have HE' : Hid (b = x3) := by show b = x3; have := HE.out; simpa using this
            clear HE
            go_wp2_with fail
            refine (numI la x3 hx3 _).mono ?_
            rintro e w4 ⟨rfl, hb4⟩
            have HW4 : Hid (Below w.heap.size w w4) := bel_on (Nat.le_refl _) HW3.out hb4
            clear hb4
            go_wp2
            go_ret
            exact ⟨by rw [HE'.out]; rfl, HW4.out⟩
  · have HE : Hid (b = false) := not_that HB.out (fun h => hs h.1)
    have h0 : ¬ st = 0 := by omega
    have h1 : ¬ st = 1 := by omega
    clear hs
    go_enter Tryz.func143, Tryz.ntmps143
    go_wp2
    go_ret
    exact ⟨by rw [HE.out]; rfl, HW0.out⟩
def AllP' (l : List PX) (j : Nat) : Prop := ∀ i (h : i < l.length), i < j → PartR l[i]
theorem allP'_succ {l : List PX} {j : Nat} (h : AllP' l j) (hj : j < l.length) (hr : PartR l[j]) : AllP' l (j + 1) := fun i hi hlt => by
  by_cases e : i = j
  · subst e; exact hr
  · exact h i hi (by omega)
def PartsR (l : List PX) : Prop := ∀ i (h : i < l.length), PartR l[i]
set_option maxRecDepth 100000 in
set_option maxHeartbeats 2000000 in
theorem partsI (a : Option Addr) (l : List PX) (n cap : Nat) (b : Bool) (hl : l.length = n) (hn : n ≤ 1048576) (hs : ∀ j (h : j < l.length), l[j].sk.length ≤ 1048576) (hb : b = true ↔ PartsR l) (w : World) (hr : RdP w a l) :
    Calls Tryz.prog 57 #[.slice a n cap] w fun e w' => e = .returned (.bool b) ∧ Below w.heap.size w w' := by
  have HB : Hid (b = true ↔ PartsR l) := hb
  have HL : Hid (l.length = n) := hl
  have HR : Hid (RdP w a l) := hr
  have HS : Hid (∀ j (h : j < l.length), l[j].sk.length ≤ 1048576) := hs
  clear hb hl hr hs
  go_enter Tryz.func57, Tryz.ntmps57
  go_wp2
  go_loopg [7] n (fun gk i wr => ∃ j : Nat, j + gk = n ∧ i = .int .i64 j ∧ Hid (AllP' l j) ∧ Hid (Below w.heap.size w wr))
  case atStart => exact ⟨0, by omega, rfl, fun i _ h => by omega, Below.refl _ _⟩
  case round =>
    obtain ⟨j, hj, rfl, HI, HW⟩ := hrel
    by_cases hlt : j < n
    · have hjl : j < l.length := by have := HL.out; omega
      obtain ⟨g, off, ha, hc⟩ := HR.out (by omega)
      subst ha
      have c := (hc j hjl).keep HW.out (Nat.le_refl _)
      have hsz := HS.out j hjl
      clear hc
      obtain ⟨x, hx⟩ := part_bool l[j]
      obtain ⟨P, hP⟩ : ∃ P, P = l[j] := ⟨_, rfl⟩
      have HP : Hid (P = l[j]) := hP
      rw [← hP] at c hx hsz
      clear hP
      obtain ⟨st, pc, sk, ss, en, la⟩ := P
      obtain ⟨c0, c1, ⟨b2, cc, c2, _, hrd⟩, c3, c4, c5⟩ := c
      dsimp only at c0 c1 c2 c3 c4 c5 hrd hsz
      obtain ⟨m, hm⟩ : ∃ m, sk.length = m := ⟨_, rfl⟩
      rw [hm] at c2 hsz
      have HM : Hid (sk.length = m) := hm
      have HX : Hid (x = true ↔ PartR ⟨st, pc, sk, ss, en, la⟩) := hx
      have HW1 : Hid (Below wr.heap.size wr (wr.alloc (.cells #[.int .i64 st, .int .i64 pc, .slice b2 m cc, .int .i64 ss, .int .i64 en, .int .i64 la] 55))) := (Below.refl _ _).alloc (Nat.le_refl _) _
      have HRD : Hid (Rd (wr.alloc (.cells #[.int .i64 st, .int .i64 pc, .slice b2 m cc, .int .i64 ss, .int .i64 en, .int .i64 la] 55)) b2 sk) := hrd.keep HW1.out (Nat.le_refl _)
      clear hx hm hrd
      go_wp2_with fail
      refine (rightI st pc ss en la b2 sk m cc x HM.out (by omega) HX.out _ HRD.out).mono ?_
      rintro e w1 ⟨rfl, hb1⟩
      have HW2 : Hid (Below w.heap.size w w1) := bel_on (Nat.le_refl _) (bel_on (Nat.le_refl _) HW.out HW1.out) hb1
      clear hb1 HW HW1 HRD c0 c1 c2 c3 c4 c5
      cases x with
      | true =>
        have HI' : Hid (AllP' l (j + 1)) := allP'_succ HI.out hjl (by have := HX.out.1 rfl; rw [HP.out] at this; exact this)
        clear HI HX HP
        go_wp2
        go_roundg (gk - 1)
        case measure => omega
        case rel => exact ⟨j + 1, by omega, by go_num, HI', HW2⟩
      | false =>
        have HE : Hid (b = false) := not_that HB.out (fun h => by have h1 := h j hjl; have h2 := HX.out.2 (by rw [HP.out]; exact h1); cases h2)
        clear HI HX HP
        go_wp2
        go_ret
        exact ⟨by rw [HE.out]; rfl, HW2.out⟩
    · have HE : Hid (b = true) := HB.out.2 (fun i h => HI.out i h (by have := HL.out; omega))
      clear HI
      go_wp2
      go_ret
      exact ⟨by rw [HE.out]; rfl, HW.out⟩
/-- each line at most its port's Most -/
def LinesR (O : List Prt) (l : List MsgL) : Prop := l.length = O.length ∧ ∀ i (h : i < l.length) (h' : i < O.length), (l[i].length : Int) ≤ O[i].2.2.2.1
def AllL (O : List Prt) (l : List MsgL) (j : Nat) : Prop := ∀ i (h : i < l.length) (h' : i < O.length), i < j → (l[i].length : Int) ≤ O[i].2.2.2.1
set_option maxRecDepth 100000 in
set_option maxHeartbeats 2000000 in
theorem linesI (q a : Option Addr) (O : List Prt) (l : List MsgL) (m n cm cap : Nat) (b : Bool) (ho : O.length = m) (hm : m ≤ 1048576) (hl : l.length = n) (hn : n ≤ 1048576) (hs : ∀ j (h : j < l.length), l[j].length ≤ 1048576) (hb : b = true ↔ LinesR O l) (w : World) (hq : RdO w q O) (hr : RdL w a l) :
    Calls Tryz.prog 58 #[.slice q m cm, .slice a n cap] w fun e w' => e = .returned (.bool b) ∧ Below w.heap.size w w' := by
  have HB : Hid (b = true ↔ LinesR O l) := hb
  have HO : Hid (O.length = m) := ho
  have HL : Hid (l.length = n) := hl
  have HQ : Hid (RdO w q O) := hq
  have HR : Hid (RdL w a l) := hr
  have HS : Hid (∀ j (h : j < l.length), l[j].length ≤ 1048576) := hs
  clear hb hl ho hr hq hs
  by_cases he : n = m
  · subst he
    go_enter Tryz.func58, Tryz.ntmps58
    go_wp2
    go_loopg [14] n (fun gk i wr => ∃ j : Nat, j + gk = n ∧ i = .int .i64 j ∧ Hid (AllL O l j) ∧ Hid (Below w.heap.size w wr))
    case atStart => exact ⟨0, by omega, rfl, fun i _ _ h => by omega, Below.refl _ _⟩
    case round =>
      obtain ⟨j, hj, rfl, HI, HW⟩ := hrel
      by_cases hlt : j < n
      · have hjl : j < l.length := by have := HL.out; omega
        have hjo : j < O.length := by have := HO.out; omega
        obtain ⟨g, off, ha, hc⟩ := HR.out (by omega)
        obtain ⟨g2, o2, ha2, hc2⟩ := HQ.out (by omega)
        subst ha ha2
        have c := (hc j hjl).keep HW.out (Nat.le_refl _)
        have d := (hc2 j hjo).2.2.2.1
        have d3 := (HW.out.cell (p := ⟨g2, o2 + j * 5 + 3, none⟩) (World.block_lt_of_cell? w _ d)).trans d
        have hsz := HS.out j hjl
        have i0 : (0 : Int) ≤ (j : Int) := by omega
        have i1 : (j : Int) < (n : Int) := by omega
        clear hc hc2 d
        obtain ⟨b2, cc, c2, _, _⟩ := c
        obtain ⟨k, hk⟩ : ∃ k, l[j].length = k := ⟨_, rfl⟩
        obtain ⟨z, hz⟩ : ∃ z, O[j].2.2.2.1 = z := ⟨_, rfl⟩
        rw [hk] at c2 hsz
        rw [hz] at d3
        have HK : Hid (l[j].length = k) := hk
        have HZ : Hid (O[j].2.2.2.1 = z) := hz
        have HW1 : Hid (Below w.heap.size w (wr.alloc (.cells #[.slice b2 k cc] 114))) := bel_on (Nat.le_refl _) HW.out ((Below.refl _ _).alloc (Nat.le_refl _) _)
        have ka := row1_cells (heap_new wr (.cells #[.slice b2 k cc] 114))
        have da := cell_on d3 ((Below.refl wr.heap.size wr).alloc (Nat.le_refl _) (.cells #[.slice b2 k cc] 114))
        clear hk hz
        by_cases hle : (k : Int) ≤ z
        · have HI' : Hid (AllL O l (j + 1)) := by
            intro i hi hi' hij
            by_cases e : i = j
            · subst e; rw [HK.out, HZ.out]; exact hle
            · exact HI.out i hi hi' (by omega)
          have hgt : ¬ z < (k : Int) := by omega
          clear HI HK HZ hle
          go_wp2
          go_quiet (fail)
          go_wp2
          go_roundg (gk - 1)
          case measure => omega
          case rel => exact ⟨j + 1, by omega, by go_num, HI', bel_drewN HW1.out _⟩
        · have HE : Hid (b = false) := not_that HB.out (fun h => hle (by have h1 := h.2 j hjl hjo; rw [HK.out, HZ.out] at h1; exact h1))
          have hgt : z < (k : Int) := by omega
          clear HI HK HZ hle
          go_wp2
          go_quiet (fail)
          go_wp2
          go_ret
          exact ⟨by rw [HE.out]; rfl, bel_drewN HW1.out _⟩
      · have HE : Hid (b = true) := HB.out.2 ⟨by rw [HL.out, HO.out], fun i h h' => HI.out i h h' (by have := HL.out; omega)⟩
        clear HI
        go_wp2
        go_ret
        exact ⟨by rw [HE.out]; rfl, HW.out⟩
  · have HE : Hid (b = false) := not_that HB.out (fun h => he (by rw [← HL.out, ← HO.out]; exact h.1))
    have he' : ¬ (n : Int) = (m : Int) := by omega
    go_enter Tryz.func58, Tryz.ntmps58
    go_wp2
    go_ret
    exact ⟨by rw [HE.out]; rfl, Below.refl _ _⟩
/-- a kernel that is right; f: what is told of its set-up -/
structure KerR (f : Int) (K : KX) : Prop where
  f : f = 0
  a : K.A.length = 64
  wa : WordsR K.A
  p : K.P.length = K.X.R.length
  l : LinesR K.X.O K.L
  o : K.O.length = 8
  wo : WordsR K.O
  t : numR K.tu
  ps : PartsR K.P
theorem ker_bool (f : Int) (K : KX) : ∃ b : Bool, b = true ↔ KerR f K := by
  by_cases hk : KerR f K
  · exact ⟨true, ⟨fun _ => hk, fun _ => rfl⟩⟩
  · exact ⟨false, ⟨fun h => (by cases h), fun h => absurd h hk⟩⟩
end Go.Proofs.YtokcbfgajcelhaaGreatDoor
