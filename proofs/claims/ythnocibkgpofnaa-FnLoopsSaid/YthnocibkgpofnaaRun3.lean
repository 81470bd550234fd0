/-
  An instruction runs (3 of three).
-/
import Derived.Test.YthnocibkgpofnaaStepV
namespace Go.Proofs.Ythnocibkgpofnaa
open Go.RowKit Go.PlainAid
set_option linter.unusedVariables false

set_option maxRecDepth 100000 in
set_option maxHeartbeats 2000000 in
theorem run3Y (w : World) (bs g n cp ga m ca B : Nat) (st ce : List Int) (arg t f s pc : Int) (h : StepIs w bs 3 arg t f s (pc + 1) (.slice (some ⟨g, 0, none⟩) (n + 2) cp) (.slice (some ⟨ga, 0, none⟩) m ca) 0 0 0 0 0 0) (ho : OwnN w B g (n + 2) cp st) (hoa : OwnN w B ga m ca ce) (hg : g ≠ bs) (hga : ga ≠ bs) (hgg : g ≠ ga) (hm : m ≤ 1048576) (hc : CpuR (pc + 1) st) (hB : B ≤ w.heap.size) (X : Int) (hX : IntKind.i64.wrap (st.getD n 0 + arg) = X) (hB2 : ldB m f s X = true) :
    Calls Try.prog 72 #[.pointer (some ⟨bs, 0, none⟩)] w fun e w' => e = .returned (.tuple #[]) ∧ w.grownBy w' (some bs) ∧ RunPost w' B bs 3 arg t f s m (okR (pc + 1) (st.take n) (stL ce f s X (st.getD (n + 1) 0))) := by
  have HS : Hid (StepIs _ _ _ _ _ _ _ _ _ _ _ _ _ _ _ _) := h
  have HO : Hid (OwnN w B g (n + 2) cp st) := ho
  have HOA : Hid (OwnN w B ga m ca ce) := hoa
  have HC : Hid (CpuR (pc + 1) st) := hc
  have HLN : Hid (st.length = (n + 2)) := ho.len
  have HMA : Hid (m ≤ ca) := hoa.cap
  have HCP : Hid ((n + 2) ≤ cp) := ho.cap
  have HN8 : Hid ((n + 2) ≤ 8) := by have := hc.1; rw [ho.len] at this; exact this
  have HBG : Hid (B ≤ g ∧ B ≤ ga) := ⟨ho.ge, hoa.ge⟩
  clear h ho hoa hc
  go_enter Try.func72, Try.ntmps72
  go_wp2_with fail
  refine (instrI w).mono ?_
  rintro e w1 ⟨rfl, hb1⟩
  have HS1 : Hid (StepIs _ _ _ _ _ _ _ _ _ _ _ _ _ _ _ _) := (HS.out.on hb1).on ((Below.refl _ _).alloc (Nat.le_refl _) (.cells tab 109))
  have HT1 : Hid ((w1.alloc (.cells tab 109)).heap[w1.heap.size]? = some (.cells tab 109)) := heap_new w1 _
  have HO1 : Hid (OwnN (w1.alloc (.cells tab 109)) B g (n + 2) cp st) := (HO.out.on hb1).alloc _
  have HOA1 : Hid (OwnN (w1.alloc (.cells tab 109)) B ga m ca ce) := (HOA.out.on hb1).alloc _
  have HG1 : Hid (w.grownBy (w1.alloc (.cells tab 109)) (some bs)) := grown_trans' (below_grown hb1) (alloc_grown _ _ _)
  have HLT : Hid (bs < w1.heap.size ∧ g < w1.heap.size ∧ ga < w1.heap.size ∧ w1.heap.size < (w1.alloc (.cells tab 109)).heap.size ∧ B ≤ w1.heap.size) := ⟨(HS.out.on hb1).lt, (HO.out.on hb1).lt, (HOA.out.on hb1).lt, by simp, by have := hb1.size; omega⟩
  have kf := HS1.out.facts
  clear hb1 HS HO HOA
  go_wp2_with (refine listStoreT rfl rfl _ _ rfl rfl rfl ?_)
  clear kf
  refine (tn2 _ bs g n cp (st.getD (n + 1) 0) (st.getD n 0) 3 arg t f s (pc + 1) (.slice (some ⟨ga, 0, none⟩) m ca) 0 0 0 0 0 0 (by decide) (by have := HN8.out; omega) HCP.out hg HS1.out (HO1.out.top (by omega)) (HO1.out.top (by omega))).mono ?_
  rintro e w2 ⟨rfl, h2, hg2⟩
  have HS2 : Hid (StepIs _ _ _ _ _ _ _ _ _ _ _ _ _ _ _ _) := h2
  have HT2 : Hid (_ = _) := grown_row hg2 HT1.out (fun e => by have e_ := Option.some.inj e; have := HLT.out.1; omega)
  have HO2 : Hid (OwnN w2 B g n cp (st.take n)) := (HO1.out.grown hg2 (fun e => hg e.symm)).cut (by omega)
  have HOA2 : Hid (OwnN w2 B ga m ca ce) := HOA1.out.grown hg2 (fun e => hga e.symm)
  have HG2 : Hid (w.grownBy w2 (some bs)) := grown_trans' HG1.out hg2
  have HW2 : Hid (w1.heap.size < w2.heap.size) := Nat.lt_of_lt_of_le HLT.out.2.2.2.1 hg2.size
  clear h2 hg2 HS1 HT1 HO1 HOA1 HG1
  have kf := HS2.out.facts
  have kt : w2.cell? ⟨w1.heap.size, 3, none⟩ = some (.func (.func 85) #[] #[]) := by rw [cell_of_row _ _ _ _ _ (0, 0) HT2.out]; rfl
  go_wp2_with fail
  clear kf kt
  refine (storeY w2 bs g n cp ga m ca (st.take n) ce 3 arg t f s (pc + 1) 0 0 0 0 (st.getD n 0) (st.getD (n + 1) 0) X (stL ce f s X (st.getD (n + 1) 0)) HS2.out hX HOA2.out.rd HOA2.out.len hm HMA.out rfl hB2).mono ?_
  rintro e w3 ⟨rfl, g', h3, hown3, hg3⟩
  have HS3 : Hid (StepIs _ _ _ _ _ _ _ _ _ _ _ _ _ _ _ _) := h3
  have HG3 : Hid (w.grownBy w3 (some bs)) := grown_trans' HG2.out hg3
  have HGE : Hid (w1.heap.size < g') := Nat.lt_of_lt_of_le HW2.out hown3.ge
  have HO3 : Hid (OwnN w3 B g n cp (st.take n)) := HO2.out.grown hg3 (fun e => hg e.symm)
  have HOA3 : Hid (OwnN w3 B g' m m _) := hown3.mono (Nat.le_of_lt (Nat.lt_of_le_of_lt HLT.out.2.2.2.2 HW2.out))
  clear h3 hown3 hg3
  go_wp2
  go_end0
  exact ⟨rfl, HG3.out, .inr ⟨rfl, n, g, cp, g', m, _, _, HO3.out.len, HS3.out, HO3.out, HOA3.out, (by have := HLT.out; have := HGE.out; omega), hg, (by have := HLT.out; have := HGE.out; omega)⟩⟩

set_option maxRecDepth 100000 in
set_option maxHeartbeats 2000000 in
theorem run3N (w : World) (bs g n cp ga m ca B : Nat) (st ce : List Int) (arg t f s pc : Int) (h : StepIs w bs 3 arg t f s (pc + 1) (.slice (some ⟨g, 0, none⟩) (n + 2) cp) (.slice (some ⟨ga, 0, none⟩) m ca) 0 0 0 0 0 0) (ho : OwnN w B g (n + 2) cp st) (hoa : OwnN w B ga m ca ce) (hg : g ≠ bs) (hga : ga ≠ bs) (hgg : g ≠ ga) (hm : m ≤ 1048576) (hc : CpuR (pc + 1) st) (hB : B ≤ w.heap.size) (X : Int) (hX : IntKind.i64.wrap (st.getD n 0 + arg) = X) (hB2 : ldB m f s X = false) :
    Calls Try.prog 72 #[.pointer (some ⟨bs, 0, none⟩)] w fun e w' => e = .returned (.tuple #[]) ∧ w.grownBy w' (some bs) ∧ RunPost w' B bs 3 arg t f s m (trapR pc st ce 2) := by
  have HS : Hid (StepIs _ _ _ _ _ _ _ _ _ _ _ _ _ _ _ _) := h
  have HO : Hid (OwnN w B g (n + 2) cp st) := ho
  have HOA : Hid (OwnN w B ga m ca ce) := hoa
  have HC : Hid (CpuR (pc + 1) st) := hc
  have HLN : Hid (st.length = (n + 2)) := ho.len
  have HMA : Hid (m ≤ ca) := hoa.cap
  have HCP : Hid ((n + 2) ≤ cp) := ho.cap
  have HN8 : Hid ((n + 2) ≤ 8) := by have := hc.1; rw [ho.len] at this; exact this
  have HBG : Hid (B ≤ g ∧ B ≤ ga) := ⟨ho.ge, hoa.ge⟩
  clear h ho hoa hc
  go_enter Try.func72, Try.ntmps72
  go_wp2_with fail
  refine (instrI w).mono ?_
  rintro e w1 ⟨rfl, hb1⟩
  have HS1 : Hid (StepIs _ _ _ _ _ _ _ _ _ _ _ _ _ _ _ _) := (HS.out.on hb1).on ((Below.refl _ _).alloc (Nat.le_refl _) (.cells tab 109))
  have HT1 : Hid ((w1.alloc (.cells tab 109)).heap[w1.heap.size]? = some (.cells tab 109)) := heap_new w1 _
  have HO1 : Hid (OwnN (w1.alloc (.cells tab 109)) B g (n + 2) cp st) := (HO.out.on hb1).alloc _
  have HOA1 : Hid (OwnN (w1.alloc (.cells tab 109)) B ga m ca ce) := (HOA.out.on hb1).alloc _
  have HG1 : Hid (w.grownBy (w1.alloc (.cells tab 109)) (some bs)) := grown_trans' (below_grown hb1) (alloc_grown _ _ _)
  have HLT : Hid (bs < w1.heap.size ∧ g < w1.heap.size ∧ ga < w1.heap.size ∧ w1.heap.size < (w1.alloc (.cells tab 109)).heap.size ∧ B ≤ w1.heap.size) := ⟨(HS.out.on hb1).lt, (HO.out.on hb1).lt, (HOA.out.on hb1).lt, by simp, by have := hb1.size; omega⟩
  have kf := HS1.out.facts
  clear hb1 HS HO HOA
  go_wp2_with (refine listStoreT rfl rfl _ _ rfl rfl rfl ?_)
  clear kf
  refine (tn2 _ bs g n cp (st.getD (n + 1) 0) (st.getD n 0) 3 arg t f s (pc + 1) (.slice (some ⟨ga, 0, none⟩) m ca) 0 0 0 0 0 0 (by decide) (by have := HN8.out; omega) HCP.out hg HS1.out (HO1.out.top (by omega)) (HO1.out.top (by omega))).mono ?_
  rintro e w2 ⟨rfl, h2, hg2⟩
  have HS2 : Hid (StepIs _ _ _ _ _ _ _ _ _ _ _ _ _ _ _ _) := h2
  have HT2 : Hid (_ = _) := grown_row hg2 HT1.out (fun e => by have e_ := Option.some.inj e; have := HLT.out.1; omega)
  have HO2 : Hid (OwnN w2 B g n cp (st.take n)) := (HO1.out.grown hg2 (fun e => hg e.symm)).cut (by omega)
  have HOA2 : Hid (OwnN w2 B ga m ca ce) := HOA1.out.grown hg2 (fun e => hga e.symm)
  have HG2 : Hid (w.grownBy w2 (some bs)) := grown_trans' HG1.out hg2
  have HW2 : Hid (w1.heap.size < w2.heap.size) := Nat.lt_of_lt_of_le HLT.out.2.2.2.1 hg2.size
  clear h2 hg2 HS1 HT1 HO1 HOA1 HG1
  have kf := HS2.out.facts
  have kt : w2.cell? ⟨w1.heap.size, 3, none⟩ = some (.func (.func 85) #[] #[]) := by rw [cell_of_row _ _ _ _ _ (0, 0) HT2.out]; rfl
  go_wp2_with fail
  clear kf kt
  refine (storeN w2 bs g n cp ga m ca (st.take n) ce 3 arg t f s (pc + 1) 0 0 0 0 (st.getD n 0) (st.getD (n + 1) 0) X (stL ce f s X (st.getD (n + 1) 0)) HS2.out hX HOA2.out.rd HOA2.out.len hm HMA.out rfl hB2).mono ?_
  rintro e w3 ⟨rfl, h3, hg3⟩
  have HS3 : Hid (StepIs _ _ _ _ _ _ _ _ _ _ _ _ _ _ _ _) := h3
  have HG3 : Hid (w.grownBy w3 (some bs)) := grown_trans' HG2.out hg3
  clear h3 hg3
  go_wp2
  go_end0
  exact ⟨rfl, HG3.out, .inl ⟨(by simp [trapR]), _, _, _, _, _, HS3.out⟩⟩

set_option maxRecDepth 100000 in
set_option maxHeartbeats 2000000 in
theorem run4 (w : World) (bs g n cp ga m ca B : Nat) (st ce : List Int) (arg t f s pc : Int) (h : StepIs w bs 4 arg t f s (pc + 1) (.slice (some ⟨g, 0, none⟩) (n + 2) cp) (.slice (some ⟨ga, 0, none⟩) m ca) 0 0 0 0 0 0) (ho : OwnN w B g (n + 2) cp st) (hoa : OwnN w B ga m ca ce) (hg : g ≠ bs) (hga : ga ≠ bs) (hgg : g ≠ ga) (hm : m ≤ 1048576) (hc : CpuR (pc + 1) st) (hB : B ≤ w.heap.size) (X : Int) (hX : IntKind.i64.wrap (st.getD n 0 + st.getD (n + 1) 0) = X) :
    Calls Try.prog 72 #[.pointer (some ⟨bs, 0, none⟩)] w fun e w' => e = .returned (.tuple #[]) ∧ w.grownBy w' (some bs) ∧ RunPost w' B bs 4 arg t f s m (okR (pc + 1) (st.take n ++ [X % 65536]) ce) := by
  have HS : Hid (StepIs _ _ _ _ _ _ _ _ _ _ _ _ _ _ _ _) := h
  have HO : Hid (OwnN w B g (n + 2) cp st) := ho
  have HOA : Hid (OwnN w B ga m ca ce) := hoa
  have HC : Hid (CpuR (pc + 1) st) := hc
  have HLN : Hid (st.length = (n + 2)) := ho.len
  have HMA : Hid (m ≤ ca) := hoa.cap
  have HCP : Hid ((n + 2) ≤ cp) := ho.cap
  have HN8 : Hid ((n + 2) ≤ 8) := by have := hc.1; rw [ho.len] at this; exact this
  have HBG : Hid (B ≤ g ∧ B ≤ ga) := ⟨ho.ge, hoa.ge⟩
  clear h ho hoa hc
  go_enter Try.func72, Try.ntmps72
  go_wp2_with fail
  refine (instrI w).mono ?_
  rintro e w1 ⟨rfl, hb1⟩
  have HS1 : Hid (StepIs _ _ _ _ _ _ _ _ _ _ _ _ _ _ _ _) := (HS.out.on hb1).on ((Below.refl _ _).alloc (Nat.le_refl _) (.cells tab 109))
  have HT1 : Hid ((w1.alloc (.cells tab 109)).heap[w1.heap.size]? = some (.cells tab 109)) := heap_new w1 _
  have HO1 : Hid (OwnN (w1.alloc (.cells tab 109)) B g (n + 2) cp st) := (HO.out.on hb1).alloc _
  have HOA1 : Hid (OwnN (w1.alloc (.cells tab 109)) B ga m ca ce) := (HOA.out.on hb1).alloc _
  have HG1 : Hid (w.grownBy (w1.alloc (.cells tab 109)) (some bs)) := grown_trans' (below_grown hb1) (alloc_grown _ _ _)
  have HLT : Hid (bs < w1.heap.size ∧ g < w1.heap.size ∧ ga < w1.heap.size ∧ w1.heap.size < (w1.alloc (.cells tab 109)).heap.size ∧ B ≤ w1.heap.size) := ⟨(HS.out.on hb1).lt, (HO.out.on hb1).lt, (HOA.out.on hb1).lt, by simp, by have := hb1.size; omega⟩
  have kf := HS1.out.facts
  clear hb1 HS HO HOA
  go_wp2_with (refine listStoreT rfl rfl _ _ rfl rfl rfl ?_)
  clear kf
  refine (tn2 _ bs g n cp (st.getD (n + 1) 0) (st.getD n 0) 4 arg t f s (pc + 1) (.slice (some ⟨ga, 0, none⟩) m ca) 0 0 0 0 0 0 (by decide) (by have := HN8.out; omega) HCP.out hg HS1.out (HO1.out.top (by omega)) (HO1.out.top (by omega))).mono ?_
  rintro e w2 ⟨rfl, h2, hg2⟩
  have HS2 : Hid (StepIs _ _ _ _ _ _ _ _ _ _ _ _ _ _ _ _) := h2
  have HT2 : Hid (_ = _) := grown_row hg2 HT1.out (fun e => by have e_ := Option.some.inj e; have := HLT.out.1; omega)
  have HO2 : Hid (OwnN w2 B g n cp (st.take n)) := (HO1.out.grown hg2 (fun e => hg e.symm)).cut (by omega)
  have HOA2 : Hid (OwnN w2 B ga m ca ce) := HOA1.out.grown hg2 (fun e => hga e.symm)
  have HG2 : Hid (w.grownBy w2 (some bs)) := grown_trans' HG1.out hg2
  have HW2 : Hid (w1.heap.size < w2.heap.size) := Nat.lt_of_lt_of_le HLT.out.2.2.2.1 hg2.size
  clear h2 hg2 HS1 HT1 HO1 HOA1 HG1
  have kf := HS2.out.facts
  have kt : w2.cell? ⟨w1.heap.size, 4, none⟩ = some (.func (.func 86) #[] #[]) := by rw [cell_of_row _ _ _ _ _ (0, 0) HT2.out]; rfl
  go_wp2_with fail
  clear kf kt
  refine (addY w2 bs g n cp (st.take n) 4 arg t f s (pc + 1) (.slice (some ⟨ga, 0, none⟩) m ca) 0 0 0 0 (st.getD n 0) (st.getD (n + 1) 0) X hX HS2.out HO2.out.rd HO2.out.len (cpuR_take HC.out _) (by have := HN8.out; omega)).mono ?_
  rintro e w3 ⟨rfl, g', c', h3, hown3, hg3⟩
  have HS3 : Hid (StepIs _ _ _ _ _ _ _ _ _ _ _ _ _ _ _ _) := h3
  have HG3 : Hid (w.grownBy w3 (some bs)) := grown_trans' HG2.out hg3
  have HGE : Hid (w1.heap.size < g') := Nat.lt_of_lt_of_le HW2.out hown3.ge
  have HO3 : Hid (OwnN w3 B g' (n + 1) c' _) := hown3.mono (Nat.le_of_lt (Nat.lt_of_le_of_lt HLT.out.2.2.2.2 HW2.out))
  have HOA3 : Hid (OwnN w3 B ga m ca ce) := HOA2.out.grown hg3 (fun e => hga e.symm)
  clear h3 hown3 hg3
  go_wp2
  go_end0
  exact ⟨rfl, HG3.out, .inr ⟨rfl, n + 1, g', c', ga, ca, _, _, HO3.out.len, HS3.out, HO3.out, HOA3.out, (by have := HLT.out; have := HGE.out; omega), (by have := HLT.out; have := HGE.out; omega), hga⟩⟩

set_option maxRecDepth 100000 in
set_option maxHeartbeats 2000000 in
theorem run5 (w : World) (bs g n cp ga m ca B : Nat) (st ce : List Int) (arg t f s pc : Int) (h : StepIs w bs 5 arg t f s (pc + 1) (.slice (some ⟨g, 0, none⟩) (n + 2) cp) (.slice (some ⟨ga, 0, none⟩) m ca) 0 0 0 0 0 0) (ho : OwnN w B g (n + 2) cp st) (hoa : OwnN w B ga m ca ce) (hg : g ≠ bs) (hga : ga ≠ bs) (hgg : g ≠ ga) (hm : m ≤ 1048576) (hc : CpuR (pc + 1) st) (hB : B ≤ w.heap.size) (X : Int) (hX : IntKind.i64.wrap (st.getD n 0 - st.getD (n + 1) 0) = X) :
    Calls Try.prog 72 #[.pointer (some ⟨bs, 0, none⟩)] w fun e w' => e = .returned (.tuple #[]) ∧ w.grownBy w' (some bs) ∧ RunPost w' B bs 5 arg t f s m (okR (pc + 1) (st.take n ++ [X % 65536]) ce) := by
  have HS : Hid (StepIs _ _ _ _ _ _ _ _ _ _ _ _ _ _ _ _) := h
  have HO : Hid (OwnN w B g (n + 2) cp st) := ho
  have HOA : Hid (OwnN w B ga m ca ce) := hoa
  have HC : Hid (CpuR (pc + 1) st) := hc
  have HLN : Hid (st.length = (n + 2)) := ho.len
  have HMA : Hid (m ≤ ca) := hoa.cap
  have HCP : Hid ((n + 2) ≤ cp) := ho.cap
  have HN8 : Hid ((n + 2) ≤ 8) := by have := hc.1; rw [ho.len] at this; exact this
  have HBG : Hid (B ≤ g ∧ B ≤ ga) := ⟨ho.ge, hoa.ge⟩
  clear h ho hoa hc
  go_enter Try.func72, Try.ntmps72
  go_wp2_with fail
  refine (instrI w).mono ?_
  rintro e w1 ⟨rfl, hb1⟩
  have HS1 : Hid (StepIs _ _ _ _ _ _ _ _ _ _ _ _ _ _ _ _) := (HS.out.on hb1).on ((Below.refl _ _).alloc (Nat.le_refl _) (.cells tab 109))
  have HT1 : Hid ((w1.alloc (.cells tab 109)).heap[w1.heap.size]? = some (.cells tab 109)) := heap_new w1 _
  have HO1 : Hid (OwnN (w1.alloc (.cells tab 109)) B g (n + 2) cp st) := (HO.out.on hb1).alloc _
  have HOA1 : Hid (OwnN (w1.alloc (.cells tab 109)) B ga m ca ce) := (HOA.out.on hb1).alloc _
  have HG1 : Hid (w.grownBy (w1.alloc (.cells tab 109)) (some bs)) := grown_trans' (below_grown hb1) (alloc_grown _ _ _)
  have HLT : Hid (bs < w1.heap.size ∧ g < w1.heap.size ∧ ga < w1.heap.size ∧ w1.heap.size < (w1.alloc (.cells tab 109)).heap.size ∧ B ≤ w1.heap.size) := ⟨(HS.out.on hb1).lt, (HO.out.on hb1).lt, (HOA.out.on hb1).lt, by simp, by have := hb1.size; omega⟩
  have kf := HS1.out.facts
  clear hb1 HS HO HOA
  go_wp2_with (refine listStoreT rfl rfl _ _ rfl rfl rfl ?_)
  clear kf
  refine (tn2 _ bs g n cp (st.getD (n + 1) 0) (st.getD n 0) 5 arg t f s (pc + 1) (.slice (some ⟨ga, 0, none⟩) m ca) 0 0 0 0 0 0 (by decide) (by have := HN8.out; omega) HCP.out hg HS1.out (HO1.out.top (by omega)) (HO1.out.top (by omega))).mono ?_
  rintro e w2 ⟨rfl, h2, hg2⟩
  have HS2 : Hid (StepIs _ _ _ _ _ _ _ _ _ _ _ _ _ _ _ _) := h2
  have HT2 : Hid (_ = _) := grown_row hg2 HT1.out (fun e => by have e_ := Option.some.inj e; have := HLT.out.1; omega)
  have HO2 : Hid (OwnN w2 B g n cp (st.take n)) := (HO1.out.grown hg2 (fun e => hg e.symm)).cut (by omega)
  have HOA2 : Hid (OwnN w2 B ga m ca ce) := HOA1.out.grown hg2 (fun e => hga e.symm)
  have HG2 : Hid (w.grownBy w2 (some bs)) := grown_trans' HG1.out hg2
  have HW2 : Hid (w1.heap.size < w2.heap.size) := Nat.lt_of_lt_of_le HLT.out.2.2.2.1 hg2.size
  clear h2 hg2 HS1 HT1 HO1 HOA1 HG1
  have kf := HS2.out.facts
  have kt : w2.cell? ⟨w1.heap.size, 5, none⟩ = some (.func (.func 87) #[] #[]) := by rw [cell_of_row _ _ _ _ _ (0, 0) HT2.out]; rfl
  go_wp2_with fail
  clear kf kt
  refine (subY w2 bs g n cp (st.take n) 5 arg t f s (pc + 1) (.slice (some ⟨ga, 0, none⟩) m ca) 0 0 0 0 (st.getD n 0) (st.getD (n + 1) 0) X hX HS2.out HO2.out.rd HO2.out.len (cpuR_take HC.out _) (by have := HN8.out; omega)).mono ?_
  rintro e w3 ⟨rfl, g', c', h3, hown3, hg3⟩
  have HS3 : Hid (StepIs _ _ _ _ _ _ _ _ _ _ _ _ _ _ _ _) := h3
  have HG3 : Hid (w.grownBy w3 (some bs)) := grown_trans' HG2.out hg3
  have HGE : Hid (w1.heap.size < g') := Nat.lt_of_lt_of_le HW2.out hown3.ge
  have HO3 : Hid (OwnN w3 B g' (n + 1) c' _) := hown3.mono (Nat.le_of_lt (Nat.lt_of_le_of_lt HLT.out.2.2.2.2 HW2.out))
  have HOA3 : Hid (OwnN w3 B ga m ca ce) := HOA2.out.grown hg3 (fun e => hga e.symm)
  clear h3 hown3 hg3
  go_wp2
  go_end0
  exact ⟨rfl, HG3.out, .inr ⟨rfl, n + 1, g', c', ga, ca, _, _, HO3.out.len, HS3.out, HO3.out, HOA3.out, (by have := HLT.out; have := HGE.out; omega), (by have := HLT.out; have := HGE.out; omega), hga⟩⟩

set_option maxRecDepth 100000 in
set_option maxHeartbeats 2000000 in
theorem run6 (w : World) (bs g n cp ga m ca B : Nat) (st ce : List Int) (arg t f s pc : Int) (h : StepIs w bs 6 arg t f s (pc + 1) (.slice (some ⟨g, 0, none⟩) (n + 2) cp) (.slice (some ⟨ga, 0, none⟩) m ca) 0 0 0 0 0 0) (ho : OwnN w B g (n + 2) cp st) (hoa : OwnN w B ga m ca ce) (hg : g ≠ bs) (hga : ga ≠ bs) (hgg : g ≠ ga) (hm : m ≤ 1048576) (hc : CpuR (pc + 1) st) (hB : B ≤ w.heap.size) (X : Int) (hX : IntKind.i64.wrap (st.getD n 0 * st.getD (n + 1) 0) = X) :
    Calls Try.prog 72 #[.pointer (some ⟨bs, 0, none⟩)] w fun e w' => e = .returned (.tuple #[]) ∧ w.grownBy w' (some bs) ∧ RunPost w' B bs 6 arg t f s m (okR (pc + 1) (st.take n ++ [X % 65536]) ce) := by
  have HS : Hid (StepIs _ _ _ _ _ _ _ _ _ _ _ _ _ _ _ _) := h
  have HO : Hid (OwnN w B g (n + 2) cp st) := ho
  have HOA : Hid (OwnN w B ga m ca ce) := hoa
  have HC : Hid (CpuR (pc + 1) st) := hc
  have HLN : Hid (st.length = (n + 2)) := ho.len
  have HMA : Hid (m ≤ ca) := hoa.cap
  have HCP : Hid ((n + 2) ≤ cp) := ho.cap
  have HN8 : Hid ((n + 2) ≤ 8) := by have := hc.1; rw [ho.len] at this; exact this
  have HBG : Hid (B ≤ g ∧ B ≤ ga) := ⟨ho.ge, hoa.ge⟩
  clear h ho hoa hc
  go_enter Try.func72, Try.ntmps72
  go_wp2_with fail
  refine (instrI w).mono ?_
  rintro e w1 ⟨rfl, hb1⟩
  have HS1 : Hid (StepIs _ _ _ _ _ _ _ _ _ _ _ _ _ _ _ _) := (HS.out.on hb1).on ((Below.refl _ _).alloc (Nat.le_refl _) (.cells tab 109))
  have HT1 : Hid ((w1.alloc (.cells tab 109)).heap[w1.heap.size]? = some (.cells tab 109)) := heap_new w1 _
  have HO1 : Hid (OwnN (w1.alloc (.cells tab 109)) B g (n + 2) cp st) := (HO.out.on hb1).alloc _
  have HOA1 : Hid (OwnN (w1.alloc (.cells tab 109)) B ga m ca ce) := (HOA.out.on hb1).alloc _
  have HG1 : Hid (w.grownBy (w1.alloc (.cells tab 109)) (some bs)) := grown_trans' (below_grown hb1) (alloc_grown _ _ _)
  have HLT : Hid (bs < w1.heap.size ∧ g < w1.heap.size ∧ ga < w1.heap.size ∧ w1.heap.size < (w1.alloc (.cells tab 109)).heap.size ∧ B ≤ w1.heap.size) := ⟨(HS.out.on hb1).lt, (HO.out.on hb1).lt, (HOA.out.on hb1).lt, by simp, by have := hb1.size; omega⟩
  have kf := HS1.out.facts
  clear hb1 HS HO HOA
  go_wp2_with (refine listStoreT rfl rfl _ _ rfl rfl rfl ?_)
  clear kf
  refine (tn2 _ bs g n cp (st.getD (n + 1) 0) (st.getD n 0) 6 arg t f s (pc + 1) (.slice (some ⟨ga, 0, none⟩) m ca) 0 0 0 0 0 0 (by decide) (by have := HN8.out; omega) HCP.out hg HS1.out (HO1.out.top (by omega)) (HO1.out.top (by omega))).mono ?_
  rintro e w2 ⟨rfl, h2, hg2⟩
  have HS2 : Hid (StepIs _ _ _ _ _ _ _ _ _ _ _ _ _ _ _ _) := h2
  have HT2 : Hid (_ = _) := grown_row hg2 HT1.out (fun e => by have e_ := Option.some.inj e; have := HLT.out.1; omega)
  have HO2 : Hid (OwnN w2 B g n cp (st.take n)) := (HO1.out.grown hg2 (fun e => hg e.symm)).cut (by omega)
  have HOA2 : Hid (OwnN w2 B ga m ca ce) := HOA1.out.grown hg2 (fun e => hga e.symm)
  have HG2 : Hid (w.grownBy w2 (some bs)) := grown_trans' HG1.out hg2
  have HW2 : Hid (w1.heap.size < w2.heap.size) := Nat.lt_of_lt_of_le HLT.out.2.2.2.1 hg2.size
  clear h2 hg2 HS1 HT1 HO1 HOA1 HG1
  have kf := HS2.out.facts
  have kt : w2.cell? ⟨w1.heap.size, 6, none⟩ = some (.func (.func 88) #[] #[]) := by rw [cell_of_row _ _ _ _ _ (0, 0) HT2.out]; rfl
  go_wp2_with fail
  clear kf kt
  refine (mulY w2 bs g n cp (st.take n) 6 arg t f s (pc + 1) (.slice (some ⟨ga, 0, none⟩) m ca) 0 0 0 0 (st.getD n 0) (st.getD (n + 1) 0) X hX HS2.out HO2.out.rd HO2.out.len (cpuR_take HC.out _) (by have := HN8.out; omega)).mono ?_
  rintro e w3 ⟨rfl, g', c', h3, hown3, hg3⟩
  have HS3 : Hid (StepIs _ _ _ _ _ _ _ _ _ _ _ _ _ _ _ _) := h3
  have HG3 : Hid (w.grownBy w3 (some bs)) := grown_trans' HG2.out hg3
  have HGE : Hid (w1.heap.size < g') := Nat.lt_of_lt_of_le HW2.out hown3.ge
  have HO3 : Hid (OwnN w3 B g' (n + 1) c' _) := hown3.mono (Nat.le_of_lt (Nat.lt_of_le_of_lt HLT.out.2.2.2.2 HW2.out))
  have HOA3 : Hid (OwnN w3 B ga m ca ce) := HOA2.out.grown hg3 (fun e => hga e.symm)
  clear h3 hown3 hg3
  go_wp2
  go_end0
  exact ⟨rfl, HG3.out, .inr ⟨rfl, n + 1, g', c', ga, ca, _, _, HO3.out.len, HS3.out, HO3.out, HOA3.out, (by have := HLT.out; have := HGE.out; omega), (by have := HLT.out; have := HGE.out; omega), hga⟩⟩

set_option maxRecDepth 100000 in
set_option maxHeartbeats 2000000 in
theorem run7Y (w : World) (bs g n cp ga m ca B : Nat) (st ce : List Int) (arg t f s pc : Int) (h : StepIs w bs 7 arg t f s (pc + 1) (.slice (some ⟨g, 0, none⟩) (n + 2) cp) (.slice (some ⟨ga, 0, none⟩) m ca) 0 0 0 0 0 0) (ho : OwnN w B g (n + 2) cp st) (hoa : OwnN w B ga m ca ce) (hg : g ≠ bs) (hga : ga ≠ bs) (hgg : g ≠ ga) (hm : m ≤ 1048576) (hc : CpuR (pc + 1) st) (hB : B ≤ w.heap.size) (X : Int) (hX : IntKind.i64.wrap ((st.getD n 0).tdiv (st.getD (n + 1) 0)) = X) (h0 : ¬ st.getD (n + 1) 0 = 0) :
    Calls Try.prog 72 #[.pointer (some ⟨bs, 0, none⟩)] w fun e w' => e = .returned (.tuple #[]) ∧ w.grownBy w' (some bs) ∧ RunPost w' B bs 7 arg t f s m (okR (pc + 1) (st.take n ++ [X % 65536]) ce) := by
  have HS : Hid (StepIs _ _ _ _ _ _ _ _ _ _ _ _ _ _ _ _) := h
  have HO : Hid (OwnN w B g (n + 2) cp st) := ho
  have HOA : Hid (OwnN w B ga m ca ce) := hoa
  have HC : Hid (CpuR (pc + 1) st) := hc
  have HLN : Hid (st.length = (n + 2)) := ho.len
  have HMA : Hid (m ≤ ca) := hoa.cap
  have HCP : Hid ((n + 2) ≤ cp) := ho.cap
  have HN8 : Hid ((n + 2) ≤ 8) := by have := hc.1; rw [ho.len] at this; exact this
  have HBG : Hid (B ≤ g ∧ B ≤ ga) := ⟨ho.ge, hoa.ge⟩
  clear h ho hoa hc
  go_enter Try.func72, Try.ntmps72
  go_wp2_with fail
  refine (instrI w).mono ?_
  rintro e w1 ⟨rfl, hb1⟩
  have HS1 : Hid (StepIs _ _ _ _ _ _ _ _ _ _ _ _ _ _ _ _) := (HS.out.on hb1).on ((Below.refl _ _).alloc (Nat.le_refl _) (.cells tab 109))
  have HT1 : Hid ((w1.alloc (.cells tab 109)).heap[w1.heap.size]? = some (.cells tab 109)) := heap_new w1 _
  have HO1 : Hid (OwnN (w1.alloc (.cells tab 109)) B g (n + 2) cp st) := (HO.out.on hb1).alloc _
  have HOA1 : Hid (OwnN (w1.alloc (.cells tab 109)) B ga m ca ce) := (HOA.out.on hb1).alloc _
  have HG1 : Hid (w.grownBy (w1.alloc (.cells tab 109)) (some bs)) := grown_trans' (below_grown hb1) (alloc_grown _ _ _)
  have HLT : Hid (bs < w1.heap.size ∧ g < w1.heap.size ∧ ga < w1.heap.size ∧ w1.heap.size < (w1.alloc (.cells tab 109)).heap.size ∧ B ≤ w1.heap.size) := ⟨(HS.out.on hb1).lt, (HO.out.on hb1).lt, (HOA.out.on hb1).lt, by simp, by have := hb1.size; omega⟩
  have kf := HS1.out.facts
  clear hb1 HS HO HOA
  go_wp2_with (refine listStoreT rfl rfl _ _ rfl rfl rfl ?_)
  clear kf
  refine (tn2 _ bs g n cp (st.getD (n + 1) 0) (st.getD n 0) 7 arg t f s (pc + 1) (.slice (some ⟨ga, 0, none⟩) m ca) 0 0 0 0 0 0 (by decide) (by have := HN8.out; omega) HCP.out hg HS1.out (HO1.out.top (by omega)) (HO1.out.top (by omega))).mono ?_
  rintro e w2 ⟨rfl, h2, hg2⟩
  have HS2 : Hid (StepIs _ _ _ _ _ _ _ _ _ _ _ _ _ _ _ _) := h2
  have HT2 : Hid (_ = _) := grown_row hg2 HT1.out (fun e => by have e_ := Option.some.inj e; have := HLT.out.1; omega)
  have HO2 : Hid (OwnN w2 B g n cp (st.take n)) := (HO1.out.grown hg2 (fun e => hg e.symm)).cut (by omega)
  have HOA2 : Hid (OwnN w2 B ga m ca ce) := HOA1.out.grown hg2 (fun e => hga e.symm)
  have HG2 : Hid (w.grownBy w2 (some bs)) := grown_trans' HG1.out hg2
  have HW2 : Hid (w1.heap.size < w2.heap.size) := Nat.lt_of_lt_of_le HLT.out.2.2.2.1 hg2.size
  clear h2 hg2 HS1 HT1 HO1 HOA1 HG1
  have kf := HS2.out.facts
  have kt : w2.cell? ⟨w1.heap.size, 7, none⟩ = some (.func (.func 89) #[] #[]) := by rw [cell_of_row _ _ _ _ _ (0, 0) HT2.out]; rfl
  go_wp2_with fail
  clear kf kt
  refine (divY w2 bs g n cp (st.take n) 7 arg t f s (pc + 1) (.slice (some ⟨ga, 0, none⟩) m ca) 0 0 0 0 (st.getD n 0) (st.getD (n + 1) 0) X hX h0 HS2.out HO2.out.rd HO2.out.len (cpuR_take HC.out _) (by have := HN8.out; omega)).mono ?_
  rintro e w3 ⟨rfl, g', c', h3, hown3, hg3⟩
  have HS3 : Hid (StepIs _ _ _ _ _ _ _ _ _ _ _ _ _ _ _ _) := h3
  have HG3 : Hid (w.grownBy w3 (some bs)) := grown_trans' HG2.out hg3
  have HGE : Hid (w1.heap.size < g') := Nat.lt_of_lt_of_le HW2.out hown3.ge
  have HO3 : Hid (OwnN w3 B g' (n + 1) c' _) := hown3.mono (Nat.le_of_lt (Nat.lt_of_le_of_lt HLT.out.2.2.2.2 HW2.out))
  have HOA3 : Hid (OwnN w3 B ga m ca ce) := HOA2.out.grown hg3 (fun e => hga e.symm)
  clear h3 hown3 hg3
  go_wp2
  go_end0
  exact ⟨rfl, HG3.out, .inr ⟨rfl, n + 1, g', c', ga, ca, _, _, HO3.out.len, HS3.out, HO3.out, HOA3.out, (by have := HLT.out; have := HGE.out; omega), (by have := HLT.out; have := HGE.out; omega), hga⟩⟩

set_option maxRecDepth 100000 in
set_option maxHeartbeats 2000000 in
theorem run7N (w : World) (bs g n cp ga m ca B : Nat) (st ce : List Int) (arg t f s pc : Int) (h : StepIs w bs 7 arg t f s (pc + 1) (.slice (some ⟨g, 0, none⟩) (n + 2) cp) (.slice (some ⟨ga, 0, none⟩) m ca) 0 0 0 0 0 0) (ho : OwnN w B g (n + 2) cp st) (hoa : OwnN w B ga m ca ce) (hg : g ≠ bs) (hga : ga ≠ bs) (hgg : g ≠ ga) (hm : m ≤ 1048576) (hc : CpuR (pc + 1) st) (hB : B ≤ w.heap.size) (h0 : st.getD (n + 1) 0 = 0) :
    Calls Try.prog 72 #[.pointer (some ⟨bs, 0, none⟩)] w fun e w' => e = .returned (.tuple #[]) ∧ w.grownBy w' (some bs) ∧ RunPost w' B bs 7 arg t f s m (trapR pc st ce 3) := by
  have HS : Hid (StepIs _ _ _ _ _ _ _ _ _ _ _ _ _ _ _ _) := h
  have HO : Hid (OwnN w B g (n + 2) cp st) := ho
  have HOA : Hid (OwnN w B ga m ca ce) := hoa
  have HC : Hid (CpuR (pc + 1) st) := hc
  have HLN : Hid (st.length = (n + 2)) := ho.len
  have HMA : Hid (m ≤ ca) := hoa.cap
  have HCP : Hid ((n + 2) ≤ cp) := ho.cap
  have HN8 : Hid ((n + 2) ≤ 8) := by have := hc.1; rw [ho.len] at this; exact this
  have HBG : Hid (B ≤ g ∧ B ≤ ga) := ⟨ho.ge, hoa.ge⟩
  clear h ho hoa hc
  go_enter Try.func72, Try.ntmps72
  go_wp2_with fail
  refine (instrI w).mono ?_
  rintro e w1 ⟨rfl, hb1⟩
  have HS1 : Hid (StepIs _ _ _ _ _ _ _ _ _ _ _ _ _ _ _ _) := (HS.out.on hb1).on ((Below.refl _ _).alloc (Nat.le_refl _) (.cells tab 109))
  have HT1 : Hid ((w1.alloc (.cells tab 109)).heap[w1.heap.size]? = some (.cells tab 109)) := heap_new w1 _
  have HO1 : Hid (OwnN (w1.alloc (.cells tab 109)) B g (n + 2) cp st) := (HO.out.on hb1).alloc _
  have HOA1 : Hid (OwnN (w1.alloc (.cells tab 109)) B ga m ca ce) := (HOA.out.on hb1).alloc _
  have HG1 : Hid (w.grownBy (w1.alloc (.cells tab 109)) (some bs)) := grown_trans' (below_grown hb1) (alloc_grown _ _ _)
  have HLT : Hid (bs < w1.heap.size ∧ g < w1.heap.size ∧ ga < w1.heap.size ∧ w1.heap.size < (w1.alloc (.cells tab 109)).heap.size ∧ B ≤ w1.heap.size) := ⟨(HS.out.on hb1).lt, (HO.out.on hb1).lt, (HOA.out.on hb1).lt, by simp, by have := hb1.size; omega⟩
  have kf := HS1.out.facts
  clear hb1 HS HO HOA
  go_wp2_with (refine listStoreT rfl rfl _ _ rfl rfl rfl ?_)
  clear kf
  refine (tn2 _ bs g n cp (st.getD (n + 1) 0) (st.getD n 0) 7 arg t f s (pc + 1) (.slice (some ⟨ga, 0, none⟩) m ca) 0 0 0 0 0 0 (by decide) (by have := HN8.out; omega) HCP.out hg HS1.out (HO1.out.top (by omega)) (HO1.out.top (by omega))).mono ?_
  rintro e w2 ⟨rfl, h2, hg2⟩
  have HS2 : Hid (StepIs _ _ _ _ _ _ _ _ _ _ _ _ _ _ _ _) := h2
  have HT2 : Hid (_ = _) := grown_row hg2 HT1.out (fun e => by have e_ := Option.some.inj e; have := HLT.out.1; omega)
  have HO2 : Hid (OwnN w2 B g n cp (st.take n)) := (HO1.out.grown hg2 (fun e => hg e.symm)).cut (by omega)
  have HOA2 : Hid (OwnN w2 B ga m ca ce) := HOA1.out.grown hg2 (fun e => hga e.symm)
  have HG2 : Hid (w.grownBy w2 (some bs)) := grown_trans' HG1.out hg2
  have HW2 : Hid (w1.heap.size < w2.heap.size) := Nat.lt_of_lt_of_le HLT.out.2.2.2.1 hg2.size
  clear h2 hg2 HS1 HT1 HO1 HOA1 HG1
  have kf := HS2.out.facts
  have kt : w2.cell? ⟨w1.heap.size, 7, none⟩ = some (.func (.func 89) #[] #[]) := by rw [cell_of_row _ _ _ _ _ (0, 0) HT2.out]; rfl
  go_wp2_with fail
  clear kf kt
  refine (divN w2 bs 7 arg t f s (pc + 1) (.slice (some ⟨g, 0, none⟩) n cp) (.slice (some ⟨ga, 0, none⟩) m ca) 0 0 0 0 (st.getD n 0) (by have h2 := HS2.out; rw [h0] at h2; exact h2)).mono ?_
  rintro e w3 ⟨rfl, h3, hg3⟩
  have HS3 : Hid (StepIs _ _ _ _ _ _ _ _ _ _ _ _ _ _ _ _) := h3
  have HG3 : Hid (w.grownBy w3 (some bs)) := grown_trans' HG2.out hg3
  clear h3 hg3
  go_wp2
  go_end0
  exact ⟨rfl, HG3.out, .inl ⟨(by simp [trapR]), _, _, _, _, _, HS3.out⟩⟩

set_option maxRecDepth 100000 in
set_option maxHeartbeats 2000000 in
theorem run8 (w : World) (bs g n cp ga m ca B : Nat) (st ce : List Int) (arg t f s pc : Int) (h : StepIs w bs 8 arg t f s (pc + 1) (.slice (some ⟨g, 0, none⟩) (n + 2) cp) (.slice (some ⟨ga, 0, none⟩) m ca) 0 0 0 0 0 0) (ho : OwnN w B g (n + 2) cp st) (hoa : OwnN w B ga m ca ce) (hg : g ≠ bs) (hga : ga ≠ bs) (hgg : g ≠ ga) (hm : m ≤ 1048576) (hc : CpuR (pc + 1) st) (hB : B ≤ w.heap.size) (X : Int) (hX : (if st.getD n 0 < st.getD (n + 1) 0 then 1 else 0) = X) :
    Calls Try.prog 72 #[.pointer (some ⟨bs, 0, none⟩)] w fun e w' => e = .returned (.tuple #[]) ∧ w.grownBy w' (some bs) ∧ RunPost w' B bs 8 arg t f s m (okR (pc + 1) (st.take n ++ [X % 65536]) ce) := by
  have HS : Hid (StepIs _ _ _ _ _ _ _ _ _ _ _ _ _ _ _ _) := h
  have HO : Hid (OwnN w B g (n + 2) cp st) := ho
  have HOA : Hid (OwnN w B ga m ca ce) := hoa
  have HC : Hid (CpuR (pc + 1) st) := hc
  have HLN : Hid (st.length = (n + 2)) := ho.len
  have HMA : Hid (m ≤ ca) := hoa.cap
  have HCP : Hid ((n + 2) ≤ cp) := ho.cap
  have HN8 : Hid ((n + 2) ≤ 8) := by have := hc.1; rw [ho.len] at this; exact this
  have HBG : Hid (B ≤ g ∧ B ≤ ga) := ⟨ho.ge, hoa.ge⟩
  clear h ho hoa hc
  go_enter Try.func72, Try.ntmps72
  go_wp2_with fail
  refine (instrI w).mono ?_
  rintro e w1 ⟨rfl, hb1⟩
  have HS1 : Hid (StepIs _ _ _ _ _ _ _ _ _ _ _ _ _ _ _ _) := (HS.out.on hb1).on ((Below.refl _ _).alloc (Nat.le_refl _) (.cells tab 109))
  have HT1 : Hid ((w1.alloc (.cells tab 109)).heap[w1.heap.size]? = some (.cells tab 109)) := heap_new w1 _
  have HO1 : Hid (OwnN (w1.alloc (.cells tab 109)) B g (n + 2) cp st) := (HO.out.on hb1).alloc _
  have HOA1 : Hid (OwnN (w1.alloc (.cells tab 109)) B ga m ca ce) := (HOA.out.on hb1).alloc _
  have HG1 : Hid (w.grownBy (w1.alloc (.cells tab 109)) (some bs)) := grown_trans' (below_grown hb1) (alloc_grown _ _ _)
  have HLT : Hid (bs < w1.heap.size ∧ g < w1.heap.size ∧ ga < w1.heap.size ∧ w1.heap.size < (w1.alloc (.cells tab 109)).heap.size ∧ B ≤ w1.heap.size) := ⟨(HS.out.on hb1).lt, (HO.out.on hb1).lt, (HOA.out.on hb1).lt, by simp, by have := hb1.size; omega⟩
  have kf := HS1.out.facts
  clear hb1 HS HO HOA
  go_wp2_with (refine listStoreT rfl rfl _ _ rfl rfl rfl ?_)
  clear kf
  refine (tn2 _ bs g n cp (st.getD (n + 1) 0) (st.getD n 0) 8 arg t f s (pc + 1) (.slice (some ⟨ga, 0, none⟩) m ca) 0 0 0 0 0 0 (by decide) (by have := HN8.out; omega) HCP.out hg HS1.out (HO1.out.top (by omega)) (HO1.out.top (by omega))).mono ?_
  rintro e w2 ⟨rfl, h2, hg2⟩
  have HS2 : Hid (StepIs _ _ _ _ _ _ _ _ _ _ _ _ _ _ _ _) := h2
  have HT2 : Hid (_ = _) := grown_row hg2 HT1.out (fun e => by have e_ := Option.some.inj e; have := HLT.out.1; omega)
  have HO2 : Hid (OwnN w2 B g n cp (st.take n)) := (HO1.out.grown hg2 (fun e => hg e.symm)).cut (by omega)
  have HOA2 : Hid (OwnN w2 B ga m ca ce) := HOA1.out.grown hg2 (fun e => hga e.symm)
  have HG2 : Hid (w.grownBy w2 (some bs)) := grown_trans' HG1.out hg2
  have HW2 : Hid (w1.heap.size < w2.heap.size) := Nat.lt_of_lt_of_le HLT.out.2.2.2.1 hg2.size
  clear h2 hg2 HS1 HT1 HO1 HOA1 HG1
  have kf := HS2.out.facts
  have kt : w2.cell? ⟨w1.heap.size, 8, none⟩ = some (.func (.func 90) #[] #[]) := by rw [cell_of_row _ _ _ _ _ (0, 0) HT2.out]; rfl
  go_wp2_with fail
  clear kf kt
  refine (lessY w2 bs g n cp (st.take n) 8 arg t f s (pc + 1) (.slice (some ⟨ga, 0, none⟩) m ca) 0 0 0 0 (st.getD n 0) (st.getD (n + 1) 0) X hX HS2.out HO2.out.rd HO2.out.len (cpuR_take HC.out _) (by have := HN8.out; omega)).mono ?_
  rintro e w3 ⟨rfl, g', c', h3, hown3, hg3⟩
  have HS3 : Hid (StepIs _ _ _ _ _ _ _ _ _ _ _ _ _ _ _ _) := h3
  have HG3 : Hid (w.grownBy w3 (some bs)) := grown_trans' HG2.out hg3
  have HGE : Hid (w1.heap.size < g') := Nat.lt_of_lt_of_le HW2.out hown3.ge
  have HO3 : Hid (OwnN w3 B g' (n + 1) c' _) := hown3.mono (Nat.le_of_lt (Nat.lt_of_le_of_lt HLT.out.2.2.2.2 HW2.out))
  have HOA3 : Hid (OwnN w3 B ga m ca ce) := HOA2.out.grown hg3 (fun e => hga e.symm)
  clear h3 hown3 hg3
  go_wp2
  go_end0
  exact ⟨rfl, HG3.out, .inr ⟨rfl, n + 1, g', c', ga, ca, _, _, HO3.out.len, HS3.out, HO3.out, HOA3.out, (by have := HLT.out; have := HGE.out; omega), (by have := HLT.out; have := HGE.out; omega), hga⟩⟩
end Go.Proofs.Ythnocibkgpofnaa
