/-
  Machines: whether one is right, copies, an answer put on: the contracts of the program's and of the specification's.
-/
import Derived.Test.YtgpopepnbnidoaaOpen6
import Derived.Test.YtgpopepnbnidoaaOwnII
namespace Go.Proofs.Ytgpopepnbnidoaa
open Go.RowKit Go.PlainAid
set_option linter.unusedVariables false

def isW (x : Int) : Prop := 0 ≤ x ∧ x ≤ 65535
/-- a right machine -/
def CpuR (pc : Int) (st : List Int) : Prop := st.length ≤ 8 ∧ (0 ≤ pc ∧ pc ≤ 60) ∧ ∀ i (h : i < st.length), isW st[i]
def AllW (st : List Int) (j : Nat) : Prop := ∀ i (h : i < st.length), i < j → isW st[i]
theorem allW_zero (st : List Int) : AllW st 0 := fun i _ h => by omega
theorem allW_succ {st : List Int} {j : Nat} (h : AllW st j) (hj : j < st.length) (hr : isW st[j]) : AllW st (j + 1) := fun i hi hlt => by
  by_cases e : i = j
  · subst e; exact hr
  · exact h i hi (by omega)
theorem cpu_bool (pc : Int) (st : List Int) : ∃ b : Bool, b = true ↔ CpuR pc st := by
  by_cases hk : CpuR pc st
  · exact ⟨true, ⟨fun _ => hk, fun _ => rfl⟩⟩
  · exact ⟨false, ⟨fun h => (by cases h), fun h => absurd h hk⟩⟩
theorem not_cpu {pc : Int} {st : List Int} {b : Bool} (hb : b = true ↔ CpuR pc st) (h : ¬ CpuR pc st) : b = false := by
  cases b
  · rfl
  · exact absurd (hb.1 rfl) h
theorem cpu_end {pc : Int} {st : List Int} {b : Bool} (hb : b = true ↔ CpuR pc st) (h1 : st.length ≤ 8) (h2 : AllW st st.length) : decide (0 ≤ pc ∧ pc ≤ 60) = b := by
  by_cases hp : 0 ≤ pc ∧ pc ≤ 60
  · rw [decide_eq_true hp]; exact (hb.2 ⟨h1, hp, fun i h => h2 i h h⟩).symm
  · rw [decide_eq_false hp]; exact (not_cpu hb (fun h => hp h.2.1)).symm

/-- what a call of a machine lays first: its box -/
theorem box2 (w : World) (x y : Value) (t : TypeId) : (w.alloc (.cells #[x, y] t)).heap[w.heap.size]? = some (.cells #[x, y] t) ∧ Below w.heap.size w (w.alloc (.cells #[x, y] t)) ∧ (w.alloc (.cells #[x, y] t)).heap.size = w.heap.size + 1 :=
  ⟨heap_new w _, (Below.refl _ _).alloc (Nat.le_refl _) _, by simp⟩

set_option maxRecDepth 100000 in
set_option maxHeartbeats 1000000 in
theorem cpuokI (a : Option Addr) (pc : Int) (st : List Int) (n cap : Nat) (b : Bool) (hl : st.length = n) (hn : n ≤ 9223372036854775807) (hb : b = true ↔ CpuR pc st) (w : World) (hr : Rd w a st) :
    Calls Try.prog 75 #[.agg #[.int .i64 pc, .slice a n cap]] w fun e w' => e = .returned (.bool b) ∧ Below w.heap.size w w' := by
  have HB : Hid (b = true ↔ CpuR pc st) := hb
  have HL : Hid (st.length = n) := hl
  have HR : Hid (Rd w a st) := hr
  obtain ⟨h1, h2, h3⟩ := box2 w (.int .i64 pc) (.slice a n cap) 67
  have HX : Hid (_ = _) := h1
  have HW0 : Hid (Below _ _ _) := h2
  have HS : Hid (_ = _) := h3
  clear hb hl hr h1 h2 h3
  by_cases hs : n ≤ 8
  · go_enter Try.func75, Try.ntmps75
    go_wp2
    go_loopg [12] n (fun gk i wr => ∃ j : Nat, j + gk = n ∧ i = .int .i64 j ∧ Hid (AllW st j) ∧ Hid (Below w.heap.size w wr) ∧ Hid (wr.heap[w.heap.size]? = some (.cells #[.int .i64 pc, .slice a n cap] 67)))
    case atStart => exact ⟨0, by omega, rfl, allW_zero st, HW0, HX⟩
    case round =>
      clear HW0 HX
      obtain ⟨j, hj, rfl, HI, HW, HX⟩ := hrel
      by_cases hlt : j < n
      · have hjl : j < st.length := by have := HL.out; omega
        obtain ⟨g, off, ha, hc⟩ := HR.out (by omega)
        subst ha
        have c1 := (HW.out.cell (p := ⟨g, off + j, none⟩) (World.block_lt_of_cell? w ⟨g, off + j, none⟩ (hc j hjl))).trans (hc j hjl)
        clear hc
        obtain ⟨x, hx⟩ : ∃ x, st[j] = x := ⟨_, rfl⟩
        rw [hx] at c1
        have HF : Hid (st[j] = x) := hx
        clear hx
        by_cases hf : 0 ≤ x ∧ x ≤ 65535
        · have hd : decide ((0 : Int) ≤ x ∧ x ≤ 65535) = true := decide_eq_true hf
          have HI' : Hid (AllW st (j + 1)) := allW_succ HI.out hjl (by rw [HF.out]; exact hf)
          clear hf HI
          go_wp2_with fail
          refine (holdsI 0 65535 x true hd _).mono ?_
          rintro e w1 ⟨rfl, hb1⟩
          have HW1 : Hid (Below w.heap.size w w1) := HW.out.trans (hb1.mono HW.out.size)
          have HX1 : Hid (_ = _) := row_on HX.out hb1
          clear hb1 hd HW HX
          go_wp2
          go_roundg (gk - 1)
          case measure => omega
          case rel => exact ⟨j + 1, by omega, by go_num, HI', HW1, HX1⟩
        · have hd : decide ((0 : Int) ≤ x ∧ x ≤ 65535) = false := decide_eq_false hf
          have HE : Hid (b = false) := not_cpu HB.out (fun h => hf (by have := h.2.2 j hjl; rw [HF.out] at this; exact this))
          clear hf HI
          go_wp2_with fail
          refine (holdsI 0 65535 x false hd _).mono ?_
          rintro e w1 ⟨rfl, hb1⟩
          have HW1 : Hid (Below w.heap.size w w1) := HW.out.trans (hb1.mono HW.out.size)
          clear hb1 hd HW HX
          go_wp2
          go_ret
          exact ⟨by rw [HE.out]; rfl, HW1.out⟩
      · have hd : decide ((0 : Int) ≤ pc ∧ pc ≤ 60) = b := cpu_end HB.out (by have := HL.out; omega) (fun i h _ => HI.out i h (by have := HL.out; omega))
        have k1 := row2_cells HX.out
        clear HI HX
        go_wp2_with fail
        refine (holdsI 0 60 pc b hd _).mono ?_
        rintro e w1 ⟨rfl, hb1⟩
        have HW1 : Hid (Below w.heap.size w w1) := HW.out.trans (hb1.mono HW.out.size)
        clear hb1 hd HW k1
        go_wp2
        go_ret
        exact ⟨rfl, HW1.out⟩
  · have HE : Hid (b = false) := not_cpu HB.out (fun h => by have := h.1; have := HL.out; omega)
    go_enter Try.func75, Try.ntmps75
    go_wp2
    go_ret
    exact ⟨by rw [HE.out]; rfl, HW0.out⟩

theorem cpu_endS {pc : Int} {st : List Int} {b : Bool} (hb : b = true ↔ CpuR pc st) (h2 : AllW st st.length) : (if 0 ≤ pc ∧ pc ≤ 60 then decide (st.length ≤ 8) else false) = b := by
  by_cases hp : 0 ≤ pc ∧ pc ≤ 60
  · rw [if_pos hp]
    by_cases h1 : st.length ≤ 8
    · rw [decide_eq_true h1]; exact (hb.2 ⟨h1, hp, fun i h => h2 i h h⟩).symm
    · rw [decide_eq_false h1]; exact (not_cpu hb (fun h => h1 h.1)).symm
  · rw [if_neg hp]; exact (not_cpu hb (fun h => hp h.2.1)).symm

set_option maxRecDepth 100000 in
set_option maxHeartbeats 1000000 in
theorem cpuokS (a : Option Addr) (pc : Int) (st : List Int) (n cap : Nat) (b : Bool) (hl : st.length = n) (hn : n ≤ 9223372036854775807) (hb : b = true ↔ CpuR pc st) (w : World) (hr : Rd w a st) :
    Calls Try.prog 63 #[.agg #[.int .i64 pc, .slice a n cap]] w fun e w' => e = .returned (.bool b) ∧ Below w.heap.size w w' := by
  have HB : Hid (b = true ↔ CpuR pc st) := hb
  have HL : Hid (st.length = n) := hl
  have HR : Hid (Rd w a st) := hr
  obtain ⟨h1, h2, h3⟩ := box2 w (.int .i64 pc) (.slice a n cap) 67
  have HX : Hid (_ = _) := h1
  have HW0 : Hid (Below _ _ _) := h2
  clear hb hl hr h1 h2 h3
  go_enter Try.func63, Try.ntmps63
  go_wp2
  go_loopg [3] n (fun gk i wr => ∃ j : Nat, j + gk = n ∧ i = .int .i64 j ∧ Hid (AllW st j) ∧ Hid (Below w.heap.size w wr) ∧ Hid (wr.heap[w.heap.size]? = some (.cells #[.int .i64 pc, .slice a n cap] 67)))
  case atStart => exact ⟨0, by omega, rfl, allW_zero st, HW0, HX⟩
  case round =>
    clear HW0 HX
    obtain ⟨j, hj, rfl, HI, HW, HX⟩ := hrel
    have k1 := row2_cells HX.out
    by_cases hlt : j < n
    · have hjl : j < st.length := by have := HL.out; omega
      obtain ⟨g, off, ha, hc⟩ := HR.out (by omega)
      subst ha
      have c1 := (HW.out.cell (p := ⟨g, off + j, none⟩) (World.block_lt_of_cell? w ⟨g, off + j, none⟩ (hc j hjl))).trans (hc j hjl)
      clear hc
      obtain ⟨x, hx⟩ : ∃ x, st[j] = x := ⟨_, rfl⟩
      rw [hx] at c1
      have HF : Hid (st[j] = x) := hx
      clear hx
      by_cases hf : 0 ≤ x ∧ x ≤ 65535
      · have hd : decide ((0 : Int) ≤ x ∧ x ≤ 65535) = true := decide_eq_true hf
        have HI' : Hid (AllW st (j + 1)) := allW_succ HI.out hjl (by rw [HF.out]; exact hf)
        clear hf HI
        go_wp2_with fail
        refine (inS 0 65535 x true hd _).mono ?_
        rintro e w1 ⟨rfl, rfl⟩
        clear hd
        go_wp2
        go_roundg (gk - 1)
        case measure => omega
        case rel => exact ⟨j + 1, by omega, by go_num, HI', HW, HX⟩
      · have hd : decide ((0 : Int) ≤ x ∧ x ≤ 65535) = false := decide_eq_false hf
        have HE : Hid (b = false) := not_cpu HB.out (fun h => hf (by have := h.2.2 j hjl; rw [HF.out] at this; exact this))
        clear hf HI
        go_wp2_with fail
        refine (inS 0 65535 x false hd _).mono ?_
        rintro e w1 ⟨rfl, rfl⟩
        clear hd
        go_wp2
        go_ret
        exact ⟨by rw [HE.out]; rfl, HW.out⟩
    · have HE : Hid ((if 0 ≤ pc ∧ pc ≤ 60 then decide (n ≤ 8) else false) = b) := by have := cpu_endS HB.out (fun i h _ => HI.out i h (by have := HL.out; omega)); rw [HL.out] at this; exact this
      clear HI
      by_cases hp : 0 ≤ pc ∧ pc ≤ 60
      · have hd : decide ((0 : Int) ≤ pc ∧ pc ≤ 60) = true := decide_eq_true hp
        have HE2 : Hid (decide (n ≤ 8) = b) := by have := HE.out; rw [if_pos hp] at this; exact this
        clear HE hp
        go_wp2_with fail
        refine (inS 0 60 pc true hd _).mono ?_
        rintro e w1 ⟨rfl, rfl⟩
        clear hd
        go_wp2
        go_ret
        exact ⟨by rw [← HE2.out]; simp; omega, HW.out⟩
      · have hd : decide ((0 : Int) ≤ pc ∧ pc ≤ 60) = false := decide_eq_false hp
        have HE2 : Hid (false = b) := by have := HE.out; rw [if_neg hp] at this; exact this
        clear HE hp
        go_wp2_with fail
        refine (inS 0 60 pc false hd _).mono ?_
        rintro e w1 ⟨rfl, rfl⟩
        clear hd
        go_wp2
        go_ret
        exact ⟨by rw [← HE2.out]; rfl, HW.out⟩
end Go.Proofs.Ytgpopepnbnidoaa
