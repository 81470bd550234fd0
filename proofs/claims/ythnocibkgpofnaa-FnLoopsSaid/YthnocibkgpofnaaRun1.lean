/-
  An instruction runs (1 of three).
-/
import Derived.Test.YthnocibkgpofnaaStepV
namespace Go.Proofs.Ythnocibkgpofnaa
open Go.RowKit Go.PlainAid
set_option linter.unusedVariables false

set_option maxRecDepth 100000 in
set_option maxHeartbeats 2000000 in
theorem run0 (w : World) (bs g n cp ga m ca B : Nat) (st ce : List Int) (arg t f s pc : Int) (h : StepIs w bs 0 arg t f s (pc + 1) (.slice (some ⟨g, 0, none⟩) n cp) (.slice (some ⟨ga, 0, none⟩) m ca) 0 0 0 0 0 0) (ho : OwnN w B g n cp st) (hoa : OwnN w B ga m ca ce) (hg : g ≠ bs) (hga : ga ≠ bs) (hgg : g ≠ ga) (hm : m ≤ 1048576) (hc : CpuR (pc + 1) st) (hB : B ≤ w.heap.size) :
    Calls Try.prog 72 #[.pointer (some ⟨bs, 0, none⟩)] w fun e w' => e = .returned (.tuple #[]) ∧ w.grownBy w' (some bs) ∧ RunPost w' B bs 0 arg t f s m (okR (pc + 1) (st) ce) := by
  have HS : Hid (StepIs _ _ _ _ _ _ _ _ _ _ _ _ _ _ _ _) := h
  have HO : Hid (OwnN w B g n cp st) := ho
  have HOA : Hid (OwnN w B ga m ca ce) := hoa
  have HC : Hid (CpuR (pc + 1) st) := hc
  have HLN : Hid (st.length = n) := ho.len
  have HMA : Hid (m ≤ ca) := hoa.cap
  have HCP : Hid (n ≤ cp) := ho.cap
  have HN8 : Hid (n ≤ 8) := by have := hc.1; rw [ho.len] at this; exact this
  have HBG : Hid (B ≤ g ∧ B ≤ ga) := ⟨ho.ge, hoa.ge⟩
  clear h ho hoa hc
  go_enter Try.func72, Try.ntmps72
  go_wp2_with fail
  refine (instrI w).mono ?_
  rintro e w1 ⟨rfl, hb1⟩
  have HS1 : Hid (StepIs _ _ _ _ _ _ _ _ _ _ _ _ _ _ _ _) := (HS.out.on hb1).on ((Below.refl _ _).alloc (Nat.le_refl _) (.cells tab 109))
  have HT1 : Hid ((w1.alloc (.cells tab 109)).heap[w1.heap.size]? = some (.cells tab 109)) := heap_new w1 _
  have HO1 : Hid (OwnN (w1.alloc (.cells tab 109)) B g n cp st) := (HO.out.on hb1).alloc _
  have HOA1 : Hid (OwnN (w1.alloc (.cells tab 109)) B ga m ca ce) := (HOA.out.on hb1).alloc _
  have HG1 : Hid (w.grownBy (w1.alloc (.cells tab 109)) (some bs)) := grown_trans' (below_grown hb1) (alloc_grown _ _ _)
  have HLT : Hid (bs < w1.heap.size ∧ g < w1.heap.size ∧ ga < w1.heap.size ∧ w1.heap.size < (w1.alloc (.cells tab 109)).heap.size ∧ B ≤ w1.heap.size) := ⟨(HS.out.on hb1).lt, (HO.out.on hb1).lt, (HOA.out.on hb1).lt, by simp, by have := hb1.size; omega⟩
  have kf := HS1.out.facts
  clear hb1 HS HO HOA
  go_wp2_with (refine listStoreT rfl rfl _ _ rfl rfl rfl ?_)
  clear kf
  refine (tn0 _ bs 0 arg t f s (pc + 1) (.slice (some ⟨g, 0, none⟩) n cp) (.slice (some ⟨ga, 0, none⟩) m ca) 0 0 0 0 0 0 (by decide) HS1.out).mono ?_
  rintro e w2 ⟨rfl, rfl⟩
  have HS2 : Hid (StepIs _ _ _ _ _ _ _ _ _ _ _ _ _ _ _ _) := HS1.out
  have HT2 : Hid (_ = _) := HT1.out
  have HO2 : Hid (OwnN _ B g n cp st) := HO1.out
  have HOA2 : Hid (OwnN _ B ga m ca ce) := HOA1.out
  have HG2 : Hid (w.grownBy _ (some bs)) := HG1.out
  have HW2 : Hid (w1.heap.size < (w1.alloc (.cells tab 109)).heap.size) := HLT.out.2.2.2.1
  clear HS1 HT1 HO1 HOA1 HG1
  have kf := HS2.out.facts
  have kt : (w1.alloc (.cells tab 109)).cell? ⟨w1.heap.size, 0, none⟩ = some (.func (.func 82) #[] #[]) := by rw [cell_of_row _ _ _ _ _ (0, 0) HT2.out]; rfl
  go_wp2_with fail
  clear kf kt
  refine (nothingY (w1.alloc (.cells tab 109)) _).mono ?_
  rintro e w3 ⟨rfl, rfl⟩
  go_wp2
  go_end0
  exact ⟨rfl, HG2.out, .inr ⟨rfl, n, g, cp, ga, ca, _, _, HO2.out.len, HS2.out, HO2.out, HOA2.out, hgg, hg, hga⟩⟩

set_option maxRecDepth 100000 in
set_option maxHeartbeats 2000000 in
theorem run1Y (w : World) (bs g n cp ga m ca B : Nat) (st ce : List Int) (arg t f s pc : Int) (h : StepIs w bs 1 arg t f s (pc + 1) (.slice (some ⟨g, 0, none⟩) n cp) (.slice (some ⟨ga, 0, none⟩) m ca) 0 0 0 0 0 0) (ho : OwnN w B g n cp st) (hoa : OwnN w B ga m ca ce) (hg : g ≠ bs) (hga : ga ≠ bs) (hgg : g ≠ ga) (hm : m ≤ 1048576) (hc : CpuR (pc + 1) st) (hB : B ≤ w.heap.size) (h8 : n ≠ 8) :
    Calls Try.prog 72 #[.pointer (some ⟨bs, 0, none⟩)] w fun e w' => e = .returned (.tuple #[]) ∧ w.grownBy w' (some bs) ∧ RunPost w' B bs 1 arg t f s m (okR (pc + 1) (st ++ [arg % 65536]) ce) := by
  have HS : Hid (StepIs _ _ _ _ _ _ _ _ _ _ _ _ _ _ _ _) := h
  have HO : Hid (OwnN w B g n cp st) := ho
  have HOA : Hid (OwnN w B ga m ca ce) := hoa
  have HC : Hid (CpuR (pc + 1) st) := hc
  have HLN : Hid (st.length = n) := ho.len
  have HMA : Hid (m ≤ ca) := hoa.cap
  have HCP : Hid (n ≤ cp) := ho.cap
  have HN8 : Hid (n ≤ 8) := by have := hc.1; rw [ho.len] at this; exact this
  have HBG : Hid (B ≤ g ∧ B ≤ ga) := ⟨ho.ge, hoa.ge⟩
  clear h ho hoa hc
  go_enter Try.func72, Try.ntmps72
  go_wp2_with fail
  refine (instrI w).mono ?_
  rintro e w1 ⟨rfl, hb1⟩
  have HS1 : Hid (StepIs _ _ _ _ _ _ _ _ _ _ _ _ _ _ _ _) := (HS.out.on hb1).on ((Below.refl _ _).alloc (Nat.le_refl _) (.cells tab 109))
  have HT1 : Hid ((w1.alloc (.cells tab 109)).heap[w1.heap.size]? = some (.cells tab 109)) := heap_new w1 _
  have HO1 : Hid (OwnN (w1.alloc (.cells tab 109)) B g n cp st) := (HO.out.on hb1).alloc _
  have HOA1 : Hid (OwnN (w1.alloc (.cells tab 109)) B ga m ca ce) := (HOA.out.on hb1).alloc _
  have HG1 : Hid (w.grownBy (w1.alloc (.cells tab 109)) (some bs)) := grown_trans' (below_grown hb1) (alloc_grown _ _ _)
  have HLT : Hid (bs < w1.heap.size ∧ g < w1.heap.size ∧ ga < w1.heap.size ∧ w1.heap.size < (w1.alloc (.cells tab 109)).heap.size ∧ B ≤ w1.heap.size) := ⟨(HS.out.on hb1).lt, (HO.out.on hb1).lt, (HOA.out.on hb1).lt, by simp, by have := hb1.size; omega⟩
  have kf := HS1.out.facts
  clear hb1 HS HO HOA
  go_wp2_with (refine listStoreT rfl rfl _ _ rfl rfl rfl ?_)
  clear kf
  refine (tn0 _ bs 1 arg t f s (pc + 1) (.slice (some ⟨g, 0, none⟩) n cp) (.slice (some ⟨ga, 0, none⟩) m ca) 0 0 0 0 0 0 (by decide) HS1.out).mono ?_
  rintro e w2 ⟨rfl, rfl⟩
  have HS2 : Hid (StepIs _ _ _ _ _ _ _ _ _ _ _ _ _ _ _ _) := HS1.out
  have HT2 : Hid (_ = _) := HT1.out
  have HO2 : Hid (OwnN _ B g n cp st) := HO1.out
  have HOA2 : Hid (OwnN _ B ga m ca ce) := HOA1.out
  have HG2 : Hid (w.grownBy _ (some bs)) := HG1.out
  have HW2 : Hid (w1.heap.size < (w1.alloc (.cells tab 109)).heap.size) := HLT.out.2.2.2.1
  clear HS1 HT1 HO1 HOA1 HG1
  have kf := HS2.out.facts
  have kt : (w1.alloc (.cells tab 109)).cell? ⟨w1.heap.size, 1, none⟩ = some (.func (.func 83) #[] #[]) := by rw [cell_of_row _ _ _ _ _ (0, 0) HT2.out]; rfl
  go_wp2_with fail
  clear kf kt
  refine (pushY (w1.alloc (.cells tab 109)) bs g n cp st 1 arg t f s (pc + 1) (.slice (some ⟨ga, 0, none⟩) m ca) 0 0 0 0 0 0 HS2.out HO2.out.rd HO2.out.len HC.out h8).mono ?_
  rintro e w3 ⟨rfl, g', c', h3, hown3, hg3⟩
  have HS3 : Hid (StepIs _ _ _ _ _ _ _ _ _ _ _ _ _ _ _ _) := h3
  have HG3 : Hid (w.grownBy w3 (some bs)) := grown_trans' HG2.out hg3
  have HGE : Hid (w1.heap.size < g') := Nat.lt_of_lt_of_le HW2.out hown3.ge
  have HO3 : Hid (OwnN w3 B g' (n + 1) c' _) := hown3.mono (Nat.le_of_lt (Nat.lt_of_le_of_lt HLT.out.2.2.2.2 HW2.out))
  have HOA3 : Hid (OwnN w3 B ga m ca ce) := HOA2.out.grown hg3 (fun e => hga e.symm)
  clear h3 hown3 hg3
  go_wp2
  go_end0
  exact ⟨rfl, HG3.out, .inr ⟨rfl, n + 1, g', c', ga, ca, _, _, HO3.out.len, HS3.out, HO3.out, HOA3.out, (by have := HLT.out; have := HGE.out; omega), (by have := HLT.out; have := HGE.out; omega), hga⟩⟩

set_option maxRecDepth 100000 in
set_option maxHeartbeats 2000000 in
theorem run1N (w : World) (bs g n cp ga m ca B : Nat) (st ce : List Int) (arg t f s pc : Int) (h : StepIs w bs 1 arg t f s (pc + 1) (.slice (some ⟨g, 0, none⟩) n cp) (.slice (some ⟨ga, 0, none⟩) m ca) 0 0 0 0 0 0) (ho : OwnN w B g n cp st) (hoa : OwnN w B ga m ca ce) (hg : g ≠ bs) (hga : ga ≠ bs) (hgg : g ≠ ga) (hm : m ≤ 1048576) (hc : CpuR (pc + 1) st) (hB : B ≤ w.heap.size) (h8 : n = 8) :
    Calls Try.prog 72 #[.pointer (some ⟨bs, 0, none⟩)] w fun e w' => e = .returned (.tuple #[]) ∧ w.grownBy w' (some bs) ∧ RunPost w' B bs 1 arg t f s m (trapR pc st ce 4) := by
  have HS : Hid (StepIs _ _ _ _ _ _ _ _ _ _ _ _ _ _ _ _) := h
  have HO : Hid (OwnN w B g n cp st) := ho
  have HOA : Hid (OwnN w B ga m ca ce) := hoa
  have HC : Hid (CpuR (pc + 1) st) := hc
  have HLN : Hid (st.length = n) := ho.len
  have HMA : Hid (m ≤ ca) := hoa.cap
  have HCP : Hid (n ≤ cp) := ho.cap
  have HN8 : Hid (n ≤ 8) := by have := hc.1; rw [ho.len] at this; exact this
  have HBG : Hid (B ≤ g ∧ B ≤ ga) := ⟨ho.ge, hoa.ge⟩
  clear h ho hoa hc
  go_enter Try.func72, Try.ntmps72
  go_wp2_with fail
  refine (instrI w).mono ?_
  rintro e w1 ⟨rfl, hb1⟩
  have HS1 : Hid (StepIs _ _ _ _ _ _ _ _ _ _ _ _ _ _ _ _) := (HS.out.on hb1).on ((Below.refl _ _).alloc (Nat.le_refl _) (.cells tab 109))
  have HT1 : Hid ((w1.alloc (.cells tab 109)).heap[w1.heap.size]? = some (.cells tab 109)) := heap_new w1 _
  have HO1 : Hid (OwnN (w1.alloc (.cells tab 109)) B g n cp st) := (HO.out.on hb1).alloc _
  have HOA1 : Hid (OwnN (w1.alloc (.cells tab 109)) B ga m ca ce) := (HOA.out.on hb1).alloc _
  have HG1 : Hid (w.grownBy (w1.alloc (.cells tab 109)) (some bs)) := grown_trans' (below_grown hb1) (alloc_grown _ _ _)
  have HLT : Hid (bs < w1.heap.size ∧ g < w1.heap.size ∧ ga < w1.heap.size ∧ w1.heap.size < (w1.alloc (.cells tab 109)).heap.size ∧ B ≤ w1.heap.size) := ⟨(HS.out.on hb1).lt, (HO.out.on hb1).lt, (HOA.out.on hb1).lt, by simp, by have := hb1.size; omega⟩
  have kf := HS1.out.facts
  clear hb1 HS HO HOA
  go_wp2_with (refine listStoreT rfl rfl _ _ rfl rfl rfl ?_)
  clear kf
  refine (tn0 _ bs 1 arg t f s (pc + 1) (.slice (some ⟨g, 0, none⟩) n cp) (.slice (some ⟨ga, 0, none⟩) m ca) 0 0 0 0 0 0 (by decide) HS1.out).mono ?_
  rintro e w2 ⟨rfl, rfl⟩
  have HS2 : Hid (StepIs _ _ _ _ _ _ _ _ _ _ _ _ _ _ _ _) := HS1.out
  have HT2 : Hid (_ = _) := HT1.out
  have HO2 : Hid (OwnN _ B g n cp st) := HO1.out
  have HOA2 : Hid (OwnN _ B ga m ca ce) := HOA1.out
  have HG2 : Hid (w.grownBy _ (some bs)) := HG1.out
  have HW2 : Hid (w1.heap.size < (w1.alloc (.cells tab 109)).heap.size) := HLT.out.2.2.2.1
  clear HS1 HT1 HO1 HOA1 HG1
  have kf := HS2.out.facts
  have kt : (w1.alloc (.cells tab 109)).cell? ⟨w1.heap.size, 1, none⟩ = some (.func (.func 83) #[] #[]) := by rw [cell_of_row _ _ _ _ _ (0, 0) HT2.out]; rfl
  go_wp2_with fail
  clear kf kt
  refine (pushN (w1.alloc (.cells tab 109)) bs g n cp st 1 arg t f s (pc + 1) (.slice (some ⟨ga, 0, none⟩) m ca) 0 0 0 0 0 0 HS2.out HO2.out.rd HO2.out.len h8).mono ?_
  rintro e w3 ⟨rfl, h3, hg3⟩
  have HS3 : Hid (StepIs _ _ _ _ _ _ _ _ _ _ _ _ _ _ _ _) := h3
  have HG3 : Hid (w.grownBy w3 (some bs)) := grown_trans' HG2.out hg3
  clear h3 hg3
  go_wp2
  go_end0
  exact ⟨rfl, HG3.out, .inl ⟨(by simp [trapR]), _, _, _, _, _, HS3.out⟩⟩

set_option maxRecDepth 100000 in
set_option maxHeartbeats 2000000 in
theorem run9 (w : World) (bs g n cp ga m ca B : Nat) (st ce : List Int) (arg t f s pc : Int) (h : StepIs w bs 9 arg t f s (pc + 1) (.slice (some ⟨g, 0, none⟩) n cp) (.slice (some ⟨ga, 0, none⟩) m ca) 0 0 0 0 0 0) (ho : OwnN w B g n cp st) (hoa : OwnN w B ga m ca ce) (hg : g ≠ bs) (hga : ga ≠ bs) (hgg : g ≠ ga) (hm : m ≤ 1048576) (hc : CpuR (pc + 1) st) (hB : B ≤ w.heap.size) :
    Calls Try.prog 72 #[.pointer (some ⟨bs, 0, none⟩)] w fun e w' => e = .returned (.tuple #[]) ∧ w.grownBy w' (some bs) ∧ RunPost w' B bs 9 arg t f s m (okR (min arg 60) (st) ce) := by
  have HS : Hid (StepIs _ _ _ _ _ _ _ _ _ _ _ _ _ _ _ _) := h
  have HO : Hid (OwnN w B g n cp st) := ho
  have HOA : Hid (OwnN w B ga m ca ce) := hoa
  have HC : Hid (CpuR (pc + 1) st) := hc
  have HLN : Hid (st.length = n) := ho.len
  have HMA : Hid (m ≤ ca) := hoa.cap
  have HCP : Hid (n ≤ cp) := ho.cap
  have HN8 : Hid (n ≤ 8) := by have := hc.1; rw [ho.len] at this; exact this
  have HBG : Hid (B ≤ g ∧ B ≤ ga) := ⟨ho.ge, hoa.ge⟩
  clear h ho hoa hc
  go_enter Try.func72, Try.ntmps72
  go_wp2_with fail
  refine (instrI w).mono ?_
  rintro e w1 ⟨rfl, hb1⟩
  have HS1 : Hid (StepIs _ _ _ _ _ _ _ _ _ _ _ _ _ _ _ _) := (HS.out.on hb1).on ((Below.refl _ _).alloc (Nat.le_refl _) (.cells tab 109))
  have HT1 : Hid ((w1.alloc (.cells tab 109)).heap[w1.heap.size]? = some (.cells tab 109)) := heap_new w1 _
  have HO1 : Hid (OwnN (w1.alloc (.cells tab 109)) B g n cp st) := (HO.out.on hb1).alloc _
  have HOA1 : Hid (OwnN (w1.alloc (.cells tab 109)) B ga m ca ce) := (HOA.out.on hb1).alloc _
  have HG1 : Hid (w.grownBy (w1.alloc (.cells tab 109)) (some bs)) := grown_trans' (below_grown hb1) (alloc_grown _ _ _)
  have HLT : Hid (bs < w1.heap.size ∧ g < w1.heap.size ∧ ga < w1.heap.size ∧ w1.heap.size < (w1.alloc (.cells tab 109)).heap.size ∧ B ≤ w1.heap.size) := ⟨(HS.out.on hb1).lt, (HO.out.on hb1).lt, (HOA.out.on hb1).lt, by simp, by have := hb1.size; omega⟩
  have kf := HS1.out.facts
  clear hb1 HS HO HOA
  go_wp2_with (refine listStoreT rfl rfl _ _ rfl rfl rfl ?_)
  clear kf
  refine (tn0 _ bs 9 arg t f s (pc + 1) (.slice (some ⟨g, 0, none⟩) n cp) (.slice (some ⟨ga, 0, none⟩) m ca) 0 0 0 0 0 0 (by decide) HS1.out).mono ?_
  rintro e w2 ⟨rfl, rfl⟩
  have HS2 : Hid (StepIs _ _ _ _ _ _ _ _ _ _ _ _ _ _ _ _) := HS1.out
  have HT2 : Hid (_ = _) := HT1.out
  have HO2 : Hid (OwnN _ B g n cp st) := HO1.out
  have HOA2 : Hid (OwnN _ B ga m ca ce) := HOA1.out
  have HG2 : Hid (w.grownBy _ (some bs)) := HG1.out
  have HW2 : Hid (w1.heap.size < (w1.alloc (.cells tab 109)).heap.size) := HLT.out.2.2.2.1
  clear HS1 HT1 HO1 HOA1 HG1
  have kf := HS2.out.facts
  have kt : (w1.alloc (.cells tab 109)).cell? ⟨w1.heap.size, 9, none⟩ = some (.func (.func 91) #[] #[]) := by rw [cell_of_row _ _ _ _ _ (0, 0) HT2.out]; rfl
  go_wp2_with fail
  clear kf kt
  refine (jumpY (w1.alloc (.cells tab 109)) bs 9 arg t f s (pc + 1) (.slice (some ⟨g, 0, none⟩) n cp) (.slice (some ⟨ga, 0, none⟩) m ca) 0 0 0 0 0 0 (min arg 60) rfl HS2.out).mono ?_
  rintro e w3 ⟨rfl, h3, hg3⟩
  have HS3 : Hid (StepIs _ _ _ _ _ _ _ _ _ _ _ _ _ _ _ _) := h3
  have HG3 : Hid (w.grownBy w3 (some bs)) := grown_trans' HG2.out hg3
  have HO3 : Hid (OwnN w3 B g n cp st) := HO2.out.grown hg3 (fun e => hg e.symm)
  have HOA3 : Hid (OwnN w3 B ga m ca ce) := HOA2.out.grown hg3 (fun e => hga e.symm)
  clear h3 hg3
  go_wp2
  go_end0
  exact ⟨rfl, HG3.out, .inr ⟨rfl, n, g, cp, ga, ca, _, _, HO3.out.len, HS3.out, HO3.out, HOA3.out, hgg, hg, hga⟩⟩

set_option maxRecDepth 100000 in
set_option maxHeartbeats 2000000 in
theorem run14 (w : World) (bs g n cp ga m ca B : Nat) (st ce : List Int) (arg t f s pc : Int) (h : StepIs w bs 14 arg t f s (pc + 1) (.slice (some ⟨g, 0, none⟩) n cp) (.slice (some ⟨ga, 0, none⟩) m ca) 0 0 0 0 0 0) (ho : OwnN w B g n cp st) (hoa : OwnN w B ga m ca ce) (hg : g ≠ bs) (hga : ga ≠ bs) (hgg : g ≠ ga) (hm : m ≤ 1048576) (hc : CpuR (pc + 1) st) (hB : B ≤ w.heap.size) :
    Calls Try.prog 72 #[.pointer (some ⟨bs, 0, none⟩)] w fun e w' => e = .returned (.tuple #[]) ∧ w.grownBy w' (some bs) ∧ RunPost w' B bs 14 arg t f s m (⟨pc + 1, st, ce, 14, arg, 0, 0⟩) := by
  have HS : Hid (StepIs _ _ _ _ _ _ _ _ _ _ _ _ _ _ _ _) := h
  have HO : Hid (OwnN w B g n cp st) := ho
  have HOA : Hid (OwnN w B ga m ca ce) := hoa
  have HC : Hid (CpuR (pc + 1) st) := hc
  have HLN : Hid (st.length = n) := ho.len
  have HMA : Hid (m ≤ ca) := hoa.cap
  have HCP : Hid (n ≤ cp) := ho.cap
  have HN8 : Hid (n ≤ 8) := by have := hc.1; rw [ho.len] at this; exact this
  have HBG : Hid (B ≤ g ∧ B ≤ ga) := ⟨ho.ge, hoa.ge⟩
  clear h ho hoa hc
  go_enter Try.func72, Try.ntmps72
  go_wp2_with fail
  refine (instrI w).mono ?_
  rintro e w1 ⟨rfl, hb1⟩
  have HS1 : Hid (StepIs _ _ _ _ _ _ _ _ _ _ _ _ _ _ _ _) := (HS.out.on hb1).on ((Below.refl _ _).alloc (Nat.le_refl _) (.cells tab 109))
  have HT1 : Hid ((w1.alloc (.cells tab 109)).heap[w1.heap.size]? = some (.cells tab 109)) := heap_new w1 _
  have HO1 : Hid (OwnN (w1.alloc (.cells tab 109)) B g n cp st) := (HO.out.on hb1).alloc _
  have HOA1 : Hid (OwnN (w1.alloc (.cells tab 109)) B ga m ca ce) := (HOA.out.on hb1).alloc _
  have HG1 : Hid (w.grownBy (w1.alloc (.cells tab 109)) (some bs)) := grown_trans' (below_grown hb1) (alloc_grown _ _ _)
  have HLT : Hid (bs < w1.heap.size ∧ g < w1.heap.size ∧ ga < w1.heap.size ∧ w1.heap.size < (w1.alloc (.cells tab 109)).heap.size ∧ B ≤ w1.heap.size) := ⟨(HS.out.on hb1).lt, (HO.out.on hb1).lt, (HOA.out.on hb1).lt, by simp, by have := hb1.size; omega⟩
  have kf := HS1.out.facts
  clear hb1 HS HO HOA
  go_wp2_with (refine listStoreT rfl rfl _ _ rfl rfl rfl ?_)
  clear kf
  refine (tn0 _ bs 14 arg t f s (pc + 1) (.slice (some ⟨g, 0, none⟩) n cp) (.slice (some ⟨ga, 0, none⟩) m ca) 0 0 0 0 0 0 (by decide) HS1.out).mono ?_
  rintro e w2 ⟨rfl, rfl⟩
  have HS2 : Hid (StepIs _ _ _ _ _ _ _ _ _ _ _ _ _ _ _ _) := HS1.out
  have HT2 : Hid (_ = _) := HT1.out
  have HO2 : Hid (OwnN _ B g n cp st) := HO1.out
  have HOA2 : Hid (OwnN _ B ga m ca ce) := HOA1.out
  have HG2 : Hid (w.grownBy _ (some bs)) := HG1.out
  have HW2 : Hid (w1.heap.size < (w1.alloc (.cells tab 109)).heap.size) := HLT.out.2.2.2.1
  clear HS1 HT1 HO1 HOA1 HG1
  have kf := HS2.out.facts
  have kt : (w1.alloc (.cells tab 109)).cell? ⟨w1.heap.size, 14, none⟩ = some (.func (.func 94) #[] #[]) := by rw [cell_of_row _ _ _ _ _ (0, 0) HT2.out]; rfl
  go_wp2_with fail
  clear kf kt
  refine (tellY (w1.alloc (.cells tab 109)) bs 14 arg t f s (pc + 1) (.slice (some ⟨g, 0, none⟩) n cp) (.slice (some ⟨ga, 0, none⟩) m ca) 0 0 0 0 0 0 HS2.out).mono ?_
  rintro e w3 ⟨rfl, h3, hg3⟩
  have HS3 : Hid (StepIs _ _ _ _ _ _ _ _ _ _ _ _ _ _ _ _) := h3
  have HG3 : Hid (w.grownBy w3 (some bs)) := grown_trans' HG2.out hg3
  have HO3 : Hid (OwnN w3 B g n cp st) := HO2.out.grown hg3 (fun e => hg e.symm)
  have HOA3 : Hid (OwnN w3 B ga m ca ce) := HOA2.out.grown hg3 (fun e => hga e.symm)
  clear h3 hg3
  go_wp2
  go_end0
  exact ⟨rfl, HG3.out, .inr ⟨rfl, n, g, cp, ga, ca, _, _, HO3.out.len, HS3.out, HO3.out, HOA3.out, hgg, hg, hga⟩⟩

set_option maxRecDepth 100000 in
set_option maxHeartbeats 2000000 in
theorem run15 (w : World) (bs g n cp ga m ca B : Nat) (st ce : List Int) (arg t f s pc : Int) (h : StepIs w bs 15 arg t f s (pc + 1) (.slice (some ⟨g, 0, none⟩) n cp) (.slice (some ⟨ga, 0, none⟩) m ca) 0 0 0 0 0 0) (ho : OwnN w B g n cp st) (hoa : OwnN w B ga m ca ce) (hg : g ≠ bs) (hga : ga ≠ bs) (hgg : g ≠ ga) (hm : m ≤ 1048576) (hc : CpuR (pc + 1) st) (hB : B ≤ w.heap.size) :
    Calls Try.prog 72 #[.pointer (some ⟨bs, 0, none⟩)] w fun e w' => e = .returned (.tuple #[]) ∧ w.grownBy w' (some bs) ∧ RunPost w' B bs 15 arg t f s m (⟨pc + 1, st, ce, 15, arg, 0, 0⟩) := by
  have HS : Hid (StepIs _ _ _ _ _ _ _ _ _ _ _ _ _ _ _ _) := h
  have HO : Hid (OwnN w B g n cp st) := ho
  have HOA : Hid (OwnN w B ga m ca ce) := hoa
  have HC : Hid (CpuR (pc + 1) st) := hc
  have HLN : Hid (st.length = n) := ho.len
  have HMA : Hid (m ≤ ca) := hoa.cap
  have HCP : Hid (n ≤ cp) := ho.cap
  have HN8 : Hid (n ≤ 8) := by have := hc.1; rw [ho.len] at this; exact this
  have HBG : Hid (B ≤ g ∧ B ≤ ga) := ⟨ho.ge, hoa.ge⟩
  clear h ho hoa hc
  go_enter Try.func72, Try.ntmps72
  go_wp2_with fail
  refine (instrI w).mono ?_
  rintro e w1 ⟨rfl, hb1⟩
  have HS1 : Hid (StepIs _ _ _ _ _ _ _ _ _ _ _ _ _ _ _ _) := (HS.out.on hb1).on ((Below.refl _ _).alloc (Nat.le_refl _) (.cells tab 109))
  have HT1 : Hid ((w1.alloc (.cells tab 109)).heap[w1.heap.size]? = some (.cells tab 109)) := heap_new w1 _
  have HO1 : Hid (OwnN (w1.alloc (.cells tab 109)) B g n cp st) := (HO.out.on hb1).alloc _
  have HOA1 : Hid (OwnN (w1.alloc (.cells tab 109)) B ga m ca ce) := (HOA.out.on hb1).alloc _
  have HG1 : Hid (w.grownBy (w1.alloc (.cells tab 109)) (some bs)) := grown_trans' (below_grown hb1) (alloc_grown _ _ _)
  have HLT : Hid (bs < w1.heap.size ∧ g < w1.heap.size ∧ ga < w1.heap.size ∧ w1.heap.size < (w1.alloc (.cells tab 109)).heap.size ∧ B ≤ w1.heap.size) := ⟨(HS.out.on hb1).lt, (HO.out.on hb1).lt, (HOA.out.on hb1).lt, by simp, by have := hb1.size; omega⟩
  have kf := HS1.out.facts
  clear hb1 HS HO HOA
  go_wp2_with (refine listStoreT rfl rfl _ _ rfl rfl rfl ?_)
  clear kf
  refine (tn0 _ bs 15 arg t f s (pc + 1) (.slice (some ⟨g, 0, none⟩) n cp) (.slice (some ⟨ga, 0, none⟩) m ca) 0 0 0 0 0 0 (by decide) HS1.out).mono ?_
  rintro e w2 ⟨rfl, rfl⟩
  have HS2 : Hid (StepIs _ _ _ _ _ _ _ _ _ _ _ _ _ _ _ _) := HS1.out
  have HT2 : Hid (_ = _) := HT1.out
  have HO2 : Hid (OwnN _ B g n cp st) := HO1.out
  have HOA2 : Hid (OwnN _ B ga m ca ce) := HOA1.out
  have HG2 : Hid (w.grownBy _ (some bs)) := HG1.out
  have HW2 : Hid (w1.heap.size < (w1.alloc (.cells tab 109)).heap.size) := HLT.out.2.2.2.1
  clear HS1 HT1 HO1 HOA1 HG1
  have kf := HS2.out.facts
  have kt : (w1.alloc (.cells tab 109)).cell? ⟨w1.heap.size, 15, none⟩ = some (.func (.func 94) #[] #[]) := by rw [cell_of_row _ _ _ _ _ (0, 0) HT2.out]; rfl
  go_wp2_with fail
  clear kf kt
  refine (tellY (w1.alloc (.cells tab 109)) bs 15 arg t f s (pc + 1) (.slice (some ⟨g, 0, none⟩) n cp) (.slice (some ⟨ga, 0, none⟩) m ca) 0 0 0 0 0 0 HS2.out).mono ?_
  rintro e w3 ⟨rfl, h3, hg3⟩
  have HS3 : Hid (StepIs _ _ _ _ _ _ _ _ _ _ _ _ _ _ _ _) := h3
  have HG3 : Hid (w.grownBy w3 (some bs)) := grown_trans' HG2.out hg3
  have HO3 : Hid (OwnN w3 B g n cp st) := HO2.out.grown hg3 (fun e => hg e.symm)
  have HOA3 : Hid (OwnN w3 B ga m ca ce) := HOA2.out.grown hg3 (fun e => hga e.symm)
  clear h3 hg3
  go_wp2
  go_end0
  exact ⟨rfl, HG3.out, .inr ⟨rfl, n, g, cp, ga, ca, _, _, HO3.out.len, HS3.out, HO3.out, HOA3.out, hgg, hg, hga⟩⟩

set_option maxRecDepth 100000 in
set_option maxHeartbeats 2000000 in
theorem run17Y (w : World) (bs g n cp ga m ca B : Nat) (st ce : List Int) (arg t f s pc : Int) (h : StepIs w bs 17 arg t f s (pc + 1) (.slice (some ⟨g, 0, none⟩) n cp) (.slice (some ⟨ga, 0, none⟩) m ca) 0 0 0 0 0 0) (ho : OwnN w B g n cp st) (hoa : OwnN w B ga m ca ce) (hg : g ≠ bs) (hga : ga ≠ bs) (hgg : g ≠ ga) (hm : m ≤ 1048576) (hc : CpuR (pc + 1) st) (hB : B ≤ w.heap.size) (h8 : n ≠ 8) :
    Calls Try.prog 72 #[.pointer (some ⟨bs, 0, none⟩)] w fun e w' => e = .returned (.tuple #[]) ∧ w.grownBy w' (some bs) ∧ RunPost w' B bs 17 arg t f s m (okR (pc + 1) (st ++ [t % 65536]) ce) := by
  have HS : Hid (StepIs _ _ _ _ _ _ _ _ _ _ _ _ _ _ _ _) := h
  have HO : Hid (OwnN w B g n cp st) := ho
  have HOA : Hid (OwnN w B ga m ca ce) := hoa
  have HC : Hid (CpuR (pc + 1) st) := hc
  have HLN : Hid (st.length = n) := ho.len
  have HMA : Hid (m ≤ ca) := hoa.cap
  have HCP : Hid (n ≤ cp) := ho.cap
  have HN8 : Hid (n ≤ 8) := by have := hc.1; rw [ho.len] at this; exact this
  have HBG : Hid (B ≤ g ∧ B ≤ ga) := ⟨ho.ge, hoa.ge⟩
  clear h ho hoa hc
  go_enter Try.func72, Try.ntmps72
  go_wp2_with fail
  refine (instrI w).mono ?_
  rintro e w1 ⟨rfl, hb1⟩
  have HS1 : Hid (StepIs _ _ _ _ _ _ _ _ _ _ _ _ _ _ _ _) := (HS.out.on hb1).on ((Below.refl _ _).alloc (Nat.le_refl _) (.cells tab 109))
  have HT1 : Hid ((w1.alloc (.cells tab 109)).heap[w1.heap.size]? = some (.cells tab 109)) := heap_new w1 _
  have HO1 : Hid (OwnN (w1.alloc (.cells tab 109)) B g n cp st) := (HO.out.on hb1).alloc _
  have HOA1 : Hid (OwnN (w1.alloc (.cells tab 109)) B ga m ca ce) := (HOA.out.on hb1).alloc _
  have HG1 : Hid (w.grownBy (w1.alloc (.cells tab 109)) (some bs)) := grown_trans' (below_grown hb1) (alloc_grown _ _ _)
  have HLT : Hid (bs < w1.heap.size ∧ g < w1.heap.size ∧ ga < w1.heap.size ∧ w1.heap.size < (w1.alloc (.cells tab 109)).heap.size ∧ B ≤ w1.heap.size) := ⟨(HS.out.on hb1).lt, (HO.out.on hb1).lt, (HOA.out.on hb1).lt, by simp, by have := hb1.size; omega⟩
  have kf := HS1.out.facts
  clear hb1 HS HO HOA
  go_wp2_with (refine listStoreT rfl rfl _ _ rfl rfl rfl ?_)
  clear kf
  refine (tn0 _ bs 17 arg t f s (pc + 1) (.slice (some ⟨g, 0, none⟩) n cp) (.slice (some ⟨ga, 0, none⟩) m ca) 0 0 0 0 0 0 (by decide) HS1.out).mono ?_
  rintro e w2 ⟨rfl, rfl⟩
  have HS2 : Hid (StepIs _ _ _ _ _ _ _ _ _ _ _ _ _ _ _ _) := HS1.out
  have HT2 : Hid (_ = _) := HT1.out
  have HO2 : Hid (OwnN _ B g n cp st) := HO1.out
  have HOA2 : Hid (OwnN _ B ga m ca ce) := HOA1.out
  have HG2 : Hid (w.grownBy _ (some bs)) := HG1.out
  have HW2 : Hid (w1.heap.size < (w1.alloc (.cells tab 109)).heap.size) := HLT.out.2.2.2.1
  clear HS1 HT1 HO1 HOA1 HG1
  have kf := HS2.out.facts
  have kt : (w1.alloc (.cells tab 109)).cell? ⟨w1.heap.size, 17, none⟩ = some (.func (.func 95) #[] #[]) := by rw [cell_of_row _ _ _ _ _ (0, 0) HT2.out]; rfl
  go_wp2_with fail
  clear kf kt
  refine (ptimeY (w1.alloc (.cells tab 109)) bs g n cp st 17 arg t f s (pc + 1) (.slice (some ⟨ga, 0, none⟩) m ca) 0 0 0 0 0 0 HS2.out HO2.out.rd HO2.out.len HC.out h8).mono ?_
  rintro e w3 ⟨rfl, g', c', h3, hown3, hg3⟩
  have HS3 : Hid (StepIs _ _ _ _ _ _ _ _ _ _ _ _ _ _ _ _) := h3
  have HG3 : Hid (w.grownBy w3 (some bs)) := grown_trans' HG2.out hg3
  have HGE : Hid (w1.heap.size < g') := Nat.lt_of_lt_of_le HW2.out hown3.ge
  have HO3 : Hid (OwnN w3 B g' (n + 1) c' _) := hown3.mono (Nat.le_of_lt (Nat.lt_of_le_of_lt HLT.out.2.2.2.2 HW2.out))
  have HOA3 : Hid (OwnN w3 B ga m ca ce) := HOA2.out.grown hg3 (fun e => hga e.symm)
  clear h3 hown3 hg3
  go_wp2
  go_end0
  exact ⟨rfl, HG3.out, .inr ⟨rfl, n + 1, g', c', ga, ca, _, _, HO3.out.len, HS3.out, HO3.out, HOA3.out, (by have := HLT.out; have := HGE.out; omega), (by have := HLT.out; have := HGE.out; omega), hga⟩⟩

set_option maxRecDepth 100000 in
set_option maxHeartbeats 2000000 in
theorem run17N (w : World) (bs g n cp ga m ca B : Nat) (st ce : List Int) (arg t f s pc : Int) (h : StepIs w bs 17 arg t f s (pc + 1) (.slice (some ⟨g, 0, none⟩) n cp) (.slice (some ⟨ga, 0, none⟩) m ca) 0 0 0 0 0 0) (ho : OwnN w B g n cp st) (hoa : OwnN w B ga m ca ce) (hg : g ≠ bs) (hga : ga ≠ bs) (hgg : g ≠ ga) (hm : m ≤ 1048576) (hc : CpuR (pc + 1) st) (hB : B ≤ w.heap.size) (h8 : n = 8) :
    Calls Try.prog 72 #[.pointer (some ⟨bs, 0, none⟩)] w fun e w' => e = .returned (.tuple #[]) ∧ w.grownBy w' (some bs) ∧ RunPost w' B bs 17 arg t f s m (trapR pc st ce 4) := by
  have HS : Hid (StepIs _ _ _ _ _ _ _ _ _ _ _ _ _ _ _ _) := h
  have HO : Hid (OwnN w B g n cp st) := ho
  have HOA : Hid (OwnN w B ga m ca ce) := hoa
  have HC : Hid (CpuR (pc + 1) st) := hc
  have HLN : Hid (st.length = n) := ho.len
  have HMA : Hid (m ≤ ca) := hoa.cap
  have HCP : Hid (n ≤ cp) := ho.cap
  have HN8 : Hid (n ≤ 8) := by have := hc.1; rw [ho.len] at this; exact this
  have HBG : Hid (B ≤ g ∧ B ≤ ga) := ⟨ho.ge, hoa.ge⟩
  clear h ho hoa hc
  go_enter Try.func72, Try.ntmps72
  go_wp2_with fail
  refine (instrI w).mono ?_
  rintro e w1 ⟨rfl, hb1⟩
  have HS1 : Hid (StepIs _ _ _ _ _ _ _ _ _ _ _ _ _ _ _ _) := (HS.out.on hb1).on ((Below.refl _ _).alloc (Nat.le_refl _) (.cells tab 109))
  have HT1 : Hid ((w1.alloc (.cells tab 109)).heap[w1.heap.size]? = some (.cells tab 109)) := heap_new w1 _
  have HO1 : Hid (OwnN (w1.alloc (.cells tab 109)) B g n cp st) := (HO.out.on hb1).alloc _
  have HOA1 : Hid (OwnN (w1.alloc (.cells tab 109)) B ga m ca ce) := (HOA.out.on hb1).alloc _
  have HG1 : Hid (w.grownBy (w1.alloc (.cells tab 109)) (some bs)) := grown_trans' (below_grown hb1) (alloc_grown _ _ _)
  have HLT : Hid (bs < w1.heap.size ∧ g < w1.heap.size ∧ ga < w1.heap.size ∧ w1.heap.size < (w1.alloc (.cells tab 109)).heap.size ∧ B ≤ w1.heap.size) := ⟨(HS.out.on hb1).lt, (HO.out.on hb1).lt, (HOA.out.on hb1).lt, by simp, by have := hb1.size; omega⟩
  have kf := HS1.out.facts
  clear hb1 HS HO HOA
  go_wp2_with (refine listStoreT rfl rfl _ _ rfl rfl rfl ?_)
  clear kf
  refine (tn0 _ bs 17 arg t f s (pc + 1) (.slice (some ⟨g, 0, none⟩) n cp) (.slice (some ⟨ga, 0, none⟩) m ca) 0 0 0 0 0 0 (by decide) HS1.out).mono ?_
  rintro e w2 ⟨rfl, rfl⟩
  have HS2 : Hid (StepIs _ _ _ _ _ _ _ _ _ _ _ _ _ _ _ _) := HS1.out
  have HT2 : Hid (_ = _) := HT1.out
  have HO2 : Hid (OwnN _ B g n cp st) := HO1.out
  have HOA2 : Hid (OwnN _ B ga m ca ce) := HOA1.out
  have HG2 : Hid (w.grownBy _ (some bs)) := HG1.out
  have HW2 : Hid (w1.heap.size < (w1.alloc (.cells tab 109)).heap.size) := HLT.out.2.2.2.1
  clear HS1 HT1 HO1 HOA1 HG1
  have kf := HS2.out.facts
  have kt : (w1.alloc (.cells tab 109)).cell? ⟨w1.heap.size, 17, none⟩ = some (.func (.func 95) #[] #[]) := by rw [cell_of_row _ _ _ _ _ (0, 0) HT2.out]; rfl
  go_wp2_with fail
  clear kf kt
  refine (ptimeN (w1.alloc (.cells tab 109)) bs g n cp st 17 arg t f s (pc + 1) (.slice (some ⟨ga, 0, none⟩) m ca) 0 0 0 0 0 0 HS2.out HO2.out.rd HO2.out.len h8).mono ?_
  rintro e w3 ⟨rfl, h3, hg3⟩
  have HS3 : Hid (StepIs _ _ _ _ _ _ _ _ _ _ _ _ _ _ _ _) := h3
  have HG3 : Hid (w.grownBy w3 (some bs)) := grown_trans' HG2.out hg3
  clear h3 hg3
  go_wp2
  go_end0
  exact ⟨rfl, HG3.out, .inl ⟨(by simp [trapR]), _, _, _, _, _, HS3.out⟩⟩
end Go.Proofs.Ythnocibkgpofnaa
