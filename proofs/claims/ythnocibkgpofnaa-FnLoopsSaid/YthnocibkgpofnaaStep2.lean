/-
  An instruction at work: numbers put on the stack, numbers taken ahead of its own work.
-/
import Derived.Test.YthnocibkgpofnaaStep1
namespace Go.Proofs.Ythnocibkgpofnaa
open Go.RowKit Go.PlainAid
set_option linter.unusedVariables false

theorem ans_yes {pc : Int} {st : List Int} {n : Nat} (hc : CpuR pc st) (h8 : n ≠ 8) : true = true ↔ (CpuR pc st ∧ n ≠ 8) := ⟨fun _ => ⟨hc, h8⟩, fun _ => rfl⟩
theorem ans_no {pc : Int} {st : List Int} {n : Nat} (h8 : n = 8) : false = true ↔ (CpuR pc st ∧ n ≠ 8) := ⟨fun h => (by cases h), fun h => absurd h8 h.2⟩
theorem OwnN.cap {w : World} {B g n c : Nat} {l : List Int} (h : OwnN w B g n c l) : n ≤ c := by
  obtain ⟨a, cap, hv, hc, _, _⟩ := own_rd h
  cases hv
  exact hc
set_option maxRecDepth 100000 in
set_option maxHeartbeats 1000000 in
theorem putY (w : World) (bs g n cp : Nat) (st : List Int) (x : Int) (op arg t f s pc : Int) (av : Value) (k po nu tr a b : Int) (h : StepIs w bs op arg t f s pc (.slice (some ⟨g, 0, none⟩) n cp) av k po nu tr a b) (hr : Rd w (some ⟨g, 0, none⟩) st) (hl : st.length = n) (hc : CpuR pc st) (h8 : n ≠ 8) :
    Calls Try.prog 97 #[.pointer (some ⟨bs, 0, none⟩), .int .i64 x] w fun e w' => e = .returned (.tuple #[]) ∧ ∃ g' c', StepIs w' bs op arg t f s pc (.slice (some ⟨g', 0, none⟩) (n + 1) c') av k po nu tr a b ∧ OwnN w' w.heap.size g' (n + 1) c' (st ++ [x % 65536]) ∧ w.grownBy w' (some bs) := by
  have HS : Hid (StepIs _ _ _ _ _ _ _ _ _ _ _ _ _ _ _ _) := h
  have kf := h.facts
  have HR : Hid (Rd _ _ _) := hr
  have HL : Hid (st.length = n) := hl
  have HC : Hid (CpuR pc st) := hc
  have H8 : Hid (n ≠ 8) := h8
  have hn : n ≤ 1048576 := by have := hc.1; omega
  clear h hr hl hc h8
  go_enter Try.func97, Try.ntmps97
  go_wp2_with fail
  clear kf
  refine (answerI' (some ⟨g, 0, none⟩) pc st n cp x true (n + 1) (st ++ [x % 65536]) HL.out hn (ans_yes HC.out H8.out) rfl rfl w HR.out).mono ?_
  rintro e w1 ⟨g', c', rfl, hown, hb⟩
  have HS1 : Hid (StepIs _ _ _ _ _ _ _ _ _ _ _ _ _ _ _ _) := (HS.out.on hb).on ((Below.refl _ _).alloc (Nat.le_refl _) (.cells #[.int .i64 pc, .slice (some ⟨g', 0, none⟩) (n + 1) c'] 55))
  have HO1 : Hid (OwnN _ w.heap.size g' (n + 1) c' (st ++ [x % 65536])) := hown.alloc (.cells #[.int .i64 pc, .slice (some ⟨g', 0, none⟩) (n + 1) c'] 55)
  have HG : Hid (w.grownBy _ (some bs)) := grown_trans' (below_grown hb) (alloc_grown w1 (.cells #[.int .i64 pc, .slice (some ⟨g', 0, none⟩) (n + 1) c'] 55) _)
  have hne : g' ≠ bs := by have := hown.ge; have := HS.out.lt; omega
  clear hown hb HS HR
  have kf := HS1.out.facts
  go_wp2
  go_end0
  exact ⟨rfl, g', c', (HS1.out.setPc pc).setS _, (HO1.out.set hne).set hne, grown_trans' (grown_trans' HG.out (grown_put _ _ _ _)) (grown_put _ _ _ _)⟩

set_option maxRecDepth 100000 in
set_option maxHeartbeats 1000000 in
theorem putN (w : World) (bs g n cp : Nat) (st : List Int) (x : Int) (op arg t f s pc : Int) (av : Value) (k po nu tr a b : Int) (h : StepIs w bs op arg t f s pc (.slice (some ⟨g, 0, none⟩) n cp) av k po nu tr a b) (hr : Rd w (some ⟨g, 0, none⟩) st) (hl : st.length = n) (h8 : n = 8) :
    Calls Try.prog 97 #[.pointer (some ⟨bs, 0, none⟩), .int .i64 x] w fun e w' => e = .returned (.tuple #[]) ∧ StepIs w' bs op arg t f s pc (.slice (some ⟨g, 0, none⟩) n cp) av 0 0 0 4 a b ∧ w.grownBy w' (some bs) := by
  have HS : Hid (StepIs _ _ _ _ _ _ _ _ _ _ _ _ _ _ _ _) := h
  have kf := h.facts
  have HR : Hid (Rd _ _ _) := hr
  have HL : Hid (st.length = n) := hl
  have H8 : Hid (n = 8) := h8
  have hn : n ≤ 1048576 := by omega
  clear h hr hl h8
  go_enter Try.func97, Try.ntmps97
  go_wp2_with fail
  clear kf
  refine (answerI' (some ⟨g, 0, none⟩) pc st n cp x false n st HL.out hn (ans_no H8.out) rfl rfl w HR.out).mono ?_
  rintro e w1 ⟨g', c', rfl, hown, hb⟩
  have HS1 : Hid (StepIs _ _ _ _ _ _ _ _ _ _ _ _ _ _ _ _) := (HS.out.on hb).on ((Below.refl _ _).alloc (Nat.le_refl _) (.cells #[.int .i64 pc, .slice (some ⟨g', 0, none⟩) n c'] 55))
  have HG : Hid (w.grownBy _ (some bs)) := grown_trans' (below_grown hb) (alloc_grown w1 (.cells #[.int .i64 pc, .slice (some ⟨g', 0, none⟩) n c'] 55) _)
  clear hown hb HS HR
  go_wp2_with fail
  refine (trapI _ bs op arg t f s pc (.slice (some ⟨g, 0, none⟩) n cp) av k po nu tr a b 4 HS1.out).mono ?_
  rintro e w2 ⟨rfl, h2, hg2⟩
  have HS2 : Hid (StepIs _ _ _ _ _ _ _ _ _ _ _ _ _ _ _ _) := h2
  have HG2 : Hid (w.grownBy w2 _) := grown_trans' HG.out hg2
  clear h2 hg2 HS1 HG
  go_wp2
  refine bodyPost_ret (v := .tuple #[]) (by simp [results, Try.results97, go_sem]) rfl ⟨rfl, HS2.out, HG2.out⟩

theorem tn0 (w : World) (bs : Nat) (op arg t f s pc : Int) (sv av : Value) (k po nu tr a b : Int) (hop : op = 0 ∨ op = 1 ∨ op = 9 ∨ op = 14 ∨ op = 15 ∨ op = 17) (h : StepIs w bs op arg t f s pc sv av k po nu tr a b) :
    Calls Try.prog 80 #[.pointer (some ⟨bs, 0, none⟩)] w fun e w' => e = .returned (.tuple #[]) ∧ w' = w := by
  rcases hop with rfl | rfl | rfl | rfl | rfl | rfl
  all_goals
    have kf := h.facts
    clear h
    go_enter Try.func80, Try.ntmps80
    go_wp2
    go_end0
    exact ⟨rfl, rfl⟩

set_option maxRecDepth 100000 in
set_option maxHeartbeats 2000000 in
theorem tn1 (w : World) (bs g m cp : Nat) (x : Int) (op arg t f s pc : Int) (av : Value) (k po nu tr a b : Int) (hop : op = 2 ∨ op = 10 ∨ op = 11 ∨ op = 12 ∨ op = 13 ∨ op = 16) (hm : m ≤ 1048576) (hc : m + 1 ≤ cp) (h : StepIs w bs op arg t f s pc (.slice (some ⟨g, 0, none⟩) (m + 1) cp) av k po nu tr a b) (hx : w.cell? ⟨g, m, none⟩ = some (.int .i64 x)) :
    Calls Try.prog 80 #[.pointer (some ⟨bs, 0, none⟩)] w fun e w' => e = .returned (.tuple #[]) ∧ StepIs w' bs op arg t f s pc (.slice (some ⟨g, 0, none⟩) m cp) av k po nu tr x b ∧ w.grownBy w' (some bs) := by
  rcases hop with rfl | rfl | rfl | rfl | rfl | rfl
  all_goals
    have HS : Hid (StepIs _ _ _ _ _ _ _ _ _ _ _ _ _ _ _ _) := h
    have HX : Hid (_ = _) := hx
    have kf := h.facts
    clear h hx
    go_enter Try.func80, Try.ntmps80
    go_wp2_with fail
    clear kf
    refine (take1I w bs g m cp x _ arg t f s pc av k po nu tr a b hm hc HS.out HX.out).mono ?_
    rintro e w1 ⟨rfl, h1, hg1⟩
    have HS1 : Hid (StepIs _ _ _ _ _ _ _ _ _ _ _ _ _ _ _ _) := h1
    have HG : Hid (w.grownBy w1 _) := hg1
    have kf := h1.facts
    clear h1 hg1
    go_wp2
    go_end0
    exact ⟨rfl, HS1.out.seta _, grown_trans' HG.out (grown_put _ _ _ _)⟩

set_option maxRecDepth 100000 in
set_option maxHeartbeats 4000000 in
theorem tn2 (w : World) (bs g m cp : Nat) (x y : Int) (op arg t f s pc : Int) (av : Value) (k po nu tr a b : Int) (hop : op = 3 ∨ op = 4 ∨ op = 5 ∨ op = 6 ∨ op = 7 ∨ op = 8) (hm : m ≤ 1048570) (hc : m + 2 ≤ cp) (hne : g ≠ bs) (h : StepIs w bs op arg t f s pc (.slice (some ⟨g, 0, none⟩) (m + 2) cp) av k po nu tr a b) (hx : w.cell? ⟨g, m + 1, none⟩ = some (.int .i64 x)) (hy : w.cell? ⟨g, m, none⟩ = some (.int .i64 y)) :
    Calls Try.prog 80 #[.pointer (some ⟨bs, 0, none⟩)] w fun e w' => e = .returned (.tuple #[]) ∧ StepIs w' bs op arg t f s pc (.slice (some ⟨g, 0, none⟩) m cp) av k po nu tr y x ∧ w.grownBy w' (some bs) := by
  rcases hop with rfl | rfl | rfl | rfl | rfl | rfl
  all_goals
    have HS : Hid (StepIs _ _ _ _ _ _ _ _ _ _ _ _ _ _ _ _) := h
    have HX : Hid (_ = _) := hx
    have HY : Hid (_ = _) := hy
    have HNE : Hid (g ≠ bs) := hne
    have kf := h.facts
    clear h hx hy hne
    go_enter Try.func80, Try.ntmps80
    go_wp2_with fail
    clear kf
    refine (take1I w bs g (m + 1) cp x _ arg t f s pc av k po nu tr a b (by omega) hc HS.out HX.out).mono ?_
    rintro e w1 ⟨rfl, h1, hg1⟩
    have HS1 : Hid (StepIs _ _ _ _ _ _ _ _ _ _ _ _ _ _ _ _) := h1.setb x
    have HG : Hid (w.grownBy (w1.setCell ⟨bs, 13, none⟩ (.int .i64 x)) (some bs)) := grown_trans' hg1 (grown_put _ _ _ _)
    have kf := h1.facts
    have HY1 : Hid ((w1.setCell ⟨bs, 13, none⟩ (.int .i64 x)).cell? ⟨g, m, none⟩ = some (.int .i64 y)) := (HG.out.cell_far ⟨g, m, none⟩ (World.block_lt_of_cell? w ⟨g, m, none⟩ HY.out) (fun e => HNE.out (Option.some.inj e))).trans HY.out
    clear h1 hg1 HS HX HY
    go_wp2_with fail
    clear kf
    refine (take1I _ bs g m cp y _ arg t f s pc av k po nu tr a x (by omega) (by omega) HS1.out HY1.out).mono ?_
    rintro e w2 ⟨rfl, h2, hg2⟩
    have HS2 : Hid (StepIs _ _ _ _ _ _ _ _ _ _ _ _ _ _ _ _) := h2
    have HG2 : Hid (w.grownBy w2 _) := grown_trans' HG.out hg2
    have kf := h2.facts
    clear h2 hg2 HS1 HG HY1
    go_wp2
    go_end0
    exact ⟨rfl, HS2.out.seta _, grown_trans' HG2.out (grown_put _ _ _ _)⟩

set_option maxRecDepth 100000 in
set_option maxHeartbeats 2000000 in
theorem tnU1 (w : World) (bs : Nat) (q : Option Addr) (cp : Nat) (op arg t f s pc : Int) (av : Value) (k po nu tr a b : Int) (hop : op = 2 ∨ op = 10 ∨ op = 11 ∨ op = 12 ∨ op = 13 ∨ op = 16) (h : StepIs w bs op arg t f s pc (.slice q 0 cp) av k po nu tr a b) :
    Calls Try.prog 80 #[.pointer (some ⟨bs, 0, none⟩)] w fun e w' => e = .returned (.tuple #[]) ∧ (∃ sv' a' b', StepIs w' bs op arg t f s pc sv' av 0 0 0 5 a' b') ∧ w.grownBy w' (some bs) := by
  rcases hop with rfl | rfl | rfl | rfl | rfl | rfl
  all_goals
    have HS : Hid (StepIs _ _ _ _ _ _ _ _ _ _ _ _ _ _ _ _) := h
    have kf := h.facts
    clear h
    go_enter Try.func80, Try.ntmps80
    go_wp2_with fail
    clear kf
    refine (take0I w bs _ arg t f s pc q cp av k po nu tr a b HS.out).mono ?_
    rintro e w1 ⟨rfl, h1, hg1⟩
    have HS1 : Hid (StepIs _ _ _ _ _ _ _ _ _ _ _ _ _ _ _ _) := h1
    have HG : Hid (w.grownBy w1 _) := hg1
    have kf := h1.facts
    clear h1 hg1
    go_wp2
    go_end0
    exact ⟨rfl, ⟨_, _, _, HS1.out.seta _⟩, grown_trans' HG.out (grown_put _ _ _ _)⟩

set_option maxRecDepth 100000 in
set_option maxHeartbeats 4000000 in
theorem tnU2 (w : World) (bs : Nat) (q : Option Addr) (cp : Nat) (op arg t f s pc : Int) (av : Value) (k po nu tr a b : Int) (hop : op = 3 ∨ op = 4 ∨ op = 5 ∨ op = 6 ∨ op = 7 ∨ op = 8) (h : StepIs w bs op arg t f s pc (.slice q 0 cp) av k po nu tr a b) :
    Calls Try.prog 80 #[.pointer (some ⟨bs, 0, none⟩)] w fun e w' => e = .returned (.tuple #[]) ∧ (∃ sv' a' b', StepIs w' bs op arg t f s pc sv' av 0 0 0 5 a' b') ∧ w.grownBy w' (some bs) := by
  rcases hop with rfl | rfl | rfl | rfl | rfl | rfl
  all_goals
    have HS : Hid (StepIs _ _ _ _ _ _ _ _ _ _ _ _ _ _ _ _) := h
    have kf := h.facts
    clear h
    go_enter Try.func80, Try.ntmps80
    go_wp2_with fail
    clear kf
    refine (take0I w bs _ arg t f s pc q cp av k po nu tr a b HS.out).mono ?_
    rintro e w1 ⟨rfl, h1, hg1⟩
    have HS1 : Hid (StepIs _ _ _ _ _ _ _ _ _ _ _ _ _ _ _ _) := h1.setb 0
    have HG : Hid (w.grownBy (w1.setCell ⟨bs, 13, none⟩ (.int .i64 0)) (some bs)) := grown_trans' hg1 (grown_put _ _ _ _)
    have kf := h1.facts
    clear h1 hg1 HS
    go_wp2_with fail
    clear kf
    refine (take0I _ bs _ arg t f s pc q cp av 0 0 0 5 a 0 HS1.out).mono ?_
    rintro e w2 ⟨rfl, h2, hg2⟩
    have HS2 : Hid (StepIs _ _ _ _ _ _ _ _ _ _ _ _ _ _ _ _) := h2
    have HG2 : Hid (w.grownBy w2 _) := grown_trans' HG.out hg2
    have kf := h2.facts
    clear h2 hg2 HS1 HG
    go_wp2
    go_end0
    exact ⟨rfl, ⟨_, _, _, HS2.out.seta _⟩, grown_trans' HG2.out (grown_put _ _ _ _)⟩

set_option maxRecDepth 100000 in
set_option maxHeartbeats 4000000 in
theorem tnU3 (w : World) (bs g cp : Nat) (x : Int) (op arg t f s pc : Int) (av : Value) (k po nu tr a b : Int) (hop : op = 3 ∨ op = 4 ∨ op = 5 ∨ op = 6 ∨ op = 7 ∨ op = 8) (hc : 1 ≤ cp) (h : StepIs w bs op arg t f s pc (.slice (some ⟨g, 0, none⟩) 1 cp) av k po nu tr a b) (hx : w.cell? ⟨g, 0, none⟩ = some (.int .i64 x)) :
    Calls Try.prog 80 #[.pointer (some ⟨bs, 0, none⟩)] w fun e w' => e = .returned (.tuple #[]) ∧ (∃ sv' a' b', StepIs w' bs op arg t f s pc sv' av 0 0 0 5 a' b') ∧ w.grownBy w' (some bs) := by
  rcases hop with rfl | rfl | rfl | rfl | rfl | rfl
  all_goals
    have HS : Hid (StepIs _ _ _ _ _ _ _ _ _ _ _ _ _ _ _ _) := h
    have HX : Hid (_ = _) := hx
    have kf := h.facts
    clear h hx
    go_enter Try.func80, Try.ntmps80
    go_wp2_with fail
    clear kf
    refine (take1I w bs g 0 cp x _ arg t f s pc av k po nu tr a b (by omega) hc HS.out HX.out).mono ?_
    rintro e w1 ⟨rfl, h1, hg1⟩
    have HS1 : Hid (StepIs _ _ _ _ _ _ _ _ _ _ _ _ _ _ _ _) := h1.setb x
    have HG : Hid (w.grownBy (w1.setCell ⟨bs, 13, none⟩ (.int .i64 x)) (some bs)) := grown_trans' hg1 (grown_put _ _ _ _)
    have kf := h1.facts
    clear h1 hg1 HS HX
    go_wp2_with fail
    clear kf
    refine (take0I _ bs _ arg t f s pc (some ⟨g, 0, none⟩) cp av k po nu tr a x HS1.out).mono ?_
    rintro e w2 ⟨rfl, h2, hg2⟩
    have HS2 : Hid (StepIs _ _ _ _ _ _ _ _ _ _ _ _ _ _ _ _) := h2
    have HG2 : Hid (w.grownBy w2 _) := grown_trans' HG.out hg2
    have kf := h2.facts
    clear h2 hg2 HS1 HG
    go_wp2
    go_end0
    exact ⟨rfl, ⟨_, _, _, HS2.out.seta _⟩, grown_trans' HG2.out (grown_put _ _ _ _)⟩
end Go.Proofs.Ythnocibkgpofnaa
