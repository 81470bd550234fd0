/-
  An instruction runs, whichever it is.
-/
import Derived.Test.YthnocibkgpofnaaRun1
import Derived.Test.YthnocibkgpofnaaRun2
import Derived.Test.YthnocibkgpofnaaRun3
namespace Go.Proofs.Ythnocibkgpofnaa
open Go.RowKit Go.PlainAid
set_option linter.unusedVariables false

set_option maxRecDepth 100000 in
set_option maxHeartbeats 2000000 in
theorem run18 (w : World) (bs g n cp ga m ca B : Nat) (st ce : List Int) (op arg t f s pc : Int) (h : StepIs w bs op arg t f s (pc + 1) (.slice (some ⟨g, 0, none⟩) n cp) (.slice (some ⟨ga, 0, none⟩) m ca) 0 0 0 0 0 0) (h18 : 18 ≤ op) :
    Calls Try.prog 72 #[.pointer (some ⟨bs, 0, none⟩)] w fun e w' => e = .returned (.tuple #[]) ∧ w.grownBy w' (some bs) ∧ RunPost w' B bs op arg t f s m (trapR pc st ce 1) := by
  have HS : Hid (StepIs _ _ _ _ _ _ _ _ _ _ _ _ _ _ _ _) := h
  clear h
  go_enter Try.func72, Try.ntmps72
  go_wp2_with fail
  refine (instrI w).mono ?_
  rintro e w1 ⟨rfl, hb1⟩
  have HS1 : Hid (StepIs _ _ _ _ _ _ _ _ _ _ _ _ _ _ _ _) := (HS.out.on hb1).on ((Below.refl _ _).alloc (Nat.le_refl _) (.cells tab 109))
  have HG1 : Hid (w.grownBy (w1.alloc (.cells tab 109)) (some bs)) := grown_trans' (below_grown hb1) (alloc_grown _ _ _)
  have kf := HS1.out.facts
  clear hb1 HS
  go_wp2_with (refine listStoreT rfl rfl _ _ rfl rfl rfl ?_)
  clear kf
  refine (trapI _ bs op arg t f s (pc + 1) (.slice (some ⟨g, 0, none⟩) n cp) (.slice (some ⟨ga, 0, none⟩) m ca) 0 0 0 0 0 0 1 HS1.out).mono ?_
  rintro e w2 ⟨rfl, h2, hg2⟩
  have HS2 : Hid (StepIs _ _ _ _ _ _ _ _ _ _ _ _ _ _ _ _) := h2
  have HG2 : Hid (w.grownBy w2 (some bs)) := grown_trans' HG1.out hg2
  clear h2 hg2
  go_wp2
  refine bodyPost_ret (v := .tuple #[]) (by simp [results, Try.results72, go_sem]) rfl ⟨rfl, HG2.out, .inl ⟨by simp [trapR], _, _, _, _, _, HS2.out⟩⟩

set_option maxRecDepth 100000 in
set_option maxHeartbeats 2000000 in
theorem runU (w : World) (bs g n cp ga m ca B : Nat) (st ce : List Int) (op arg t f s pc : Int) (h : StepIs w bs op arg t f s (pc + 1) (.slice (some ⟨g, 0, none⟩) n cp) (.slice (some ⟨ga, 0, none⟩) m ca) 0 0 0 0 0 0) (ho : OwnN w B g n cp st) (h18 : ¬ 18 ≤ op)
    (htn : ∀ W, StepIs W bs op arg t f s (pc + 1) (.slice (some ⟨g, 0, none⟩) n cp) (.slice (some ⟨ga, 0, none⟩) m ca) 0 0 0 0 0 0 → OwnN W B g n cp st → Calls Try.prog 80 #[.pointer (some ⟨bs, 0, none⟩)] W fun e w' => e = .returned (.tuple #[]) ∧ (∃ sv' a' b', StepIs w' bs op arg t f s (pc + 1) sv' (.slice (some ⟨ga, 0, none⟩) m ca) 0 0 0 5 a' b') ∧ W.grownBy w' (some bs)) :
    Calls Try.prog 72 #[.pointer (some ⟨bs, 0, none⟩)] w fun e w' => e = .returned (.tuple #[]) ∧ w.grownBy w' (some bs) ∧ RunPost w' B bs op arg t f s m (trapR pc st ce 5) := by
  have HS : Hid (StepIs _ _ _ _ _ _ _ _ _ _ _ _ _ _ _ _) := h
  have HO : Hid (OwnN w B g n cp st) := ho
  have HTN : Hid _ := htn
  clear h ho htn
  go_enter Try.func72, Try.ntmps72
  go_wp2_with fail
  refine (instrI w).mono ?_
  rintro e w1 ⟨rfl, hb1⟩
  have HS1 : Hid (StepIs _ _ _ _ _ _ _ _ _ _ _ _ _ _ _ _) := (HS.out.on hb1).on ((Below.refl _ _).alloc (Nat.le_refl _) (.cells tab 109))
  have HO1 : Hid (OwnN (w1.alloc (.cells tab 109)) B g n cp st) := (HO.out.on hb1).alloc _
  have HG1 : Hid (w.grownBy (w1.alloc (.cells tab 109)) (some bs)) := grown_trans' (below_grown hb1) (alloc_grown _ _ _)
  have kf := HS1.out.facts
  clear hb1 HS HO
  go_wp2_with (refine listStoreT rfl rfl _ _ rfl rfl rfl ?_)
  clear kf
  refine (HTN.out _ HS1.out HO1.out).mono ?_
  rintro e w2 ⟨rfl, ⟨sv', a', b', h2⟩, hg2⟩
  have HS2 : Hid (StepIs _ _ _ _ _ _ _ _ _ _ _ _ _ _ _ _) := h2
  have HG2 : Hid (w.grownBy w2 (some bs)) := grown_trans' HG1.out hg2
  have kf := h2.facts
  clear h2 hg2 HTN
  go_wp2
  go_end0
  exact ⟨rfl, HG2.out, .inl ⟨by simp [trapR], _, _, _, _, _, HS2.out⟩⟩

theorem sv_big {pc : Int} {st ce : List Int} {f s t op arg : Int} (h : 18 ≤ op) : stepV pc st ce f s t op arg = trapR pc st ce 1 := if_pos (by omega)
theorem sv_under {pc : Int} {st ce : List Int} {f s t op arg : Int} (h : ¬ 17 < op) (hn : st.length < needs op) : stepV pc st ce f s t op arg = trapR pc st ce 5 := by
  unfold stepV; rw [if_neg h, if_pos hn]
theorem sv_do {pc : Int} {st ce : List Int} {f s t op arg : Int} (h : ¬ 17 < op) (hn : ¬ st.length < needs op) : stepV pc st ce f s t op arg = doV pc st (st.take (st.length - needs op)) (st.getD (st.length - 1) 0) (st.getD (st.length - 2) 0) ce f s t op arg := by
  unfold stepV; rw [if_neg h, if_neg hn]
theorem sv0 {pc : Int} {st ce : List Int} {f s t op arg : Int} (h : ¬ 17 < op) (hn : needs op = 0) : stepV pc st ce f s t op arg = doV pc st st (st.getD (st.length - 1) 0) (st.getD (st.length - 2) 0) ce f s t op arg := by
  rw [sv_do h (by omega), hn, Nat.sub_zero, List.take_length]
theorem sv1 {pc : Int} {st ce : List Int} {f s t op arg : Int} {q : Nat} (h : ¬ 17 < op) (hn : needs op = 1) (hl : st.length = q + 1) : stepV pc st ce f s t op arg = doV pc st (st.take q) (st.getD q 0) (st.getD (st.length - 2) 0) ce f s t op arg := by
  rw [sv_do h (by omega), hn, hl, Nat.add_sub_cancel]
theorem sv2 {pc : Int} {st ce : List Int} {f s t op arg : Int} {q : Nat} (h : ¬ 17 < op) (hn : needs op = 2) (hl : st.length = q + 2) : stepV pc st ce f s t op arg = doV pc st (st.take q) (st.getD (q + 1) 0) (st.getD q 0) ce f s t op arg := by
  rw [sv_do h (by omega), hn, hl, Nat.add_sub_cancel, show q + 2 - 1 = q + 1 by omega]

theorem wrap_small {x : Int} (h0 : -4611686018427387904 ≤ x) (h1 : x ≤ 4611686018427387904) : IntKind.i64.wrap x = x := wrap_in (by omega) (by omega)
theorem isW_mul {x y : Int} (hx : isW x) (hy : isW y) : 0 ≤ y * x ∧ y * x ≤ 4294836225 := by
  unfold isW at *
  refine ⟨Int.mul_nonneg hy.1 hx.1, ?_⟩
  have := Int.mul_le_mul hy.2 hx.2 hx.1 (by omega : (0 : Int) ≤ 65535)
  omega
theorem isW_div {x y : Int} (hx : isW x) (hy : isW y) (h0 : ¬ x = 0) : 0 ≤ y.tdiv x ∧ y.tdiv x ≤ 65535 := by
  unfold isW at *
  have h1 : 0 ≤ y.tdiv x := Int.tdiv_nonneg hy.1 hx.1
  have h2 : y.tdiv x ≤ y := Int.tdiv_le_self _ hy.1
  omega
section
variable {pc : Int} {st u ce : List Int} {x y f s t arg : Int}
theorem dv1 : doV pc st u x y ce f s t 1 arg = (if st.length = 8 then trapR pc st ce 4 else okR (pc + 1) (u ++ [arg % 65536]) ce) := rfl
theorem dv2 : doV pc st u x y ce f s t 2 arg = (if ldB ce.length f s (x + arg) = true then okR (pc + 1) (u ++ [ldX ce f s (x + arg) % 65536]) ce else trapR pc st ce 2) := rfl
theorem dv3 : doV pc st u x y ce f s t 3 arg = (if ldB ce.length f s (y + arg) = true then okR (pc + 1) u (stL ce f s (y + arg) x) else trapR pc st ce 2) := rfl
theorem dv7 : doV pc st u x y ce f s t 7 arg = (if x = 0 then trapR pc st ce 3 else okR (pc + 1) (u ++ [(y.tdiv x) % 65536]) ce) := rfl
theorem dv11 : doV pc st u x y ce f s t 11 arg = (if st.length = 8 then trapR pc st ce 4 else okR (pc + 1) (u ++ [x % 65536] ++ [x % 65536]) ce) := rfl
theorem dv17 : doV pc st u x y ce f s t 17 arg = (if st.length = 8 then trapR pc st ce 4 else okR (pc + 1) (u ++ [t % 65536]) ce) := rfl
end

set_option maxRecDepth 100000 in
set_option maxHeartbeats 4000000 in
theorem runI (w : World) (bs g n cp ga m ca B : Nat) (st ce : List Int) (op arg t f s pc : Int) (h : StepIs w bs op arg t f s (pc + 1) (.slice (some ⟨g, 0, none⟩) n cp) (.slice (some ⟨ga, 0, none⟩) m ca) 0 0 0 0 0 0) (ho : OwnN w B g n cp st) (hoa : OwnN w B ga m ca ce) (hg : g ≠ bs) (hga : ga ≠ bs) (hgg : g ≠ ga) (hm : m ≤ 1048576) (hc : CpuR (pc + 1) st) (hB : B ≤ w.heap.size) (hop : 0 ≤ op ∧ op ≤ 255) (harg : 0 ≤ arg ∧ arg ≤ 255) :
    Calls Try.prog 72 #[.pointer (some ⟨bs, 0, none⟩)] w fun e w' => e = .returned (.tuple #[]) ∧ w.grownBy w' (some bs) ∧ RunPost w' B bs op arg t f s m (stepV pc st ce f s t op arg) := by
  have hla := hoa.len
  by_cases h18 : 18 ≤ op
  · rw [sv_big h18]; exact run18 w bs g n cp ga m ca B st ce op arg t f s pc h h18
  have hl := ho.len
  have hcases : op = 0 ∨ op = 1 ∨ op = 2 ∨ op = 3 ∨ op = 4 ∨ op = 5 ∨ op = 6 ∨ op = 7 ∨ op = 8 ∨ op = 9 ∨ op = 10 ∨ op = 11 ∨ op = 12 ∨ op = 13 ∨ op = 14 ∨ op = 15 ∨ op = 16 ∨ op = 17 := by omega
  rcases hcases with rfl | rfl | rfl | rfl | rfl | rfl | rfl | rfl | rfl | rfl | rfl | rfl | rfl | rfl | rfl | rfl | rfl | rfl
  · rw [sv0 (by decide) (by decide)]
    exact run0 w bs g n cp ga m ca B st ce arg t f s pc h ho hoa hg hga hgg hm hc hB
  · rw [sv0 (by decide) (by decide)]
    by_cases hk : n = 8
    · rw [dv1, if_pos (by omega)]; exact run1N w bs g n cp ga m ca B st ce arg t f s pc h ho hoa hg hga hgg hm hc hB hk
    · rw [dv1, if_neg (by omega)]; exact run1Y w bs g n cp ga m ca B st ce arg t f s pc h ho hoa hg hga hgg hm hc hB hk
  · rcases n with _ | n
    · rw [sv_under (by decide) (by rw [hl]; decide)]
      exact runU w bs g 0 cp ga m ca B st ce 2 arg t f s pc h ho (by decide) (fun W hW _ => tnU1 W bs _ cp 2 arg t f s (pc + 1) _ 0 0 0 0 0 0 (by decide) hW)
    · rw [sv1 (by decide) (by decide) hl]
      have hx : isW (st.getD n 0) := cpuR_top hc (by omega)
      unfold isW at hx
      have hX : IntKind.i64.wrap (st.getD n 0 + arg) = st.getD n 0 + arg := wrap_small (by omega) (by omega)
      by_cases hk : ldB m f s (st.getD n 0 + arg) = true
      · rw [dv2, if_pos (by rw [hla]; exact hk)]; exact run2Y w bs g n cp ga m ca B st ce arg t f s pc h ho hoa hg hga hgg hm hc hB _ hX hk
      · rw [dv2, if_neg (by rw [hla]; exact hk)]; exact run2N w bs g n cp ga m ca B st ce arg t f s pc h ho hoa hg hga hgg hm hc hB _ hX (by simpa using hk)
  · rcases n with _ | _ | n
    · rw [sv_under (by decide) (by rw [hl]; decide)]
      exact runU w bs g 0 cp ga m ca B st ce 3 arg t f s pc h ho (by decide) (fun W hW _ => tnU2 W bs _ cp 3 arg t f s (pc + 1) _ 0 0 0 0 0 0 (by decide) hW)
    · rw [sv_under (by decide) (by rw [hl]; decide)]
      exact runU w bs g 1 cp ga m ca B st ce 3 arg t f s pc h ho (by decide) (fun W hW hOW => tnU3 W bs g cp (st.getD 0 0) 3 arg t f s (pc + 1) _ 0 0 0 0 0 0 (by decide) hOW.cap hW (hOW.top (by omega)))
    · rw [sv2 (by decide) (by decide) hl]
      have hx : isW (st.getD (n + 1) 0) := cpuR_top hc (by omega)
      have hy : isW (st.getD n 0) := cpuR_top hc (by omega)
      unfold isW at hx hy
      have hX : IntKind.i64.wrap (st.getD n 0 + arg) = st.getD n 0 + arg := wrap_small (by omega) (by omega)
      by_cases hk : ldB m f s (st.getD n 0 + arg) = true
      · rw [dv3, if_pos (by rw [hla]; exact hk)]; exact run3Y w bs g n cp ga m ca B st ce arg t f s pc h ho hoa hg hga hgg hm hc hB _ hX hk
      · rw [dv3, if_neg (by rw [hla]; exact hk)]; exact run3N w bs g n cp ga m ca B st ce arg t f s pc h ho hoa hg hga hgg hm hc hB _ hX (by simpa using hk)
  · rcases n with _ | _ | n
    · rw [sv_under (by decide) (by rw [hl]; decide)]
      exact runU w bs g 0 cp ga m ca B st ce 4 arg t f s pc h ho (by decide) (fun W hW _ => tnU2 W bs _ cp 4 arg t f s (pc + 1) _ 0 0 0 0 0 0 (by decide) hW)
    · rw [sv_under (by decide) (by rw [hl]; decide)]
      exact runU w bs g 1 cp ga m ca B st ce 4 arg t f s pc h ho (by decide) (fun W hW hOW => tnU3 W bs g cp (st.getD 0 0) 4 arg t f s (pc + 1) _ 0 0 0 0 0 0 (by decide) hOW.cap hW (hOW.top (by omega)))
    · rw [sv2 (by decide) (by decide) hl]
      have hx : isW (st.getD (n + 1) 0) := cpuR_top hc (by omega)
      have hy : isW (st.getD n 0) := cpuR_top hc (by omega)
      unfold isW at hx hy
      exact run4 w bs g n cp ga m ca B st ce arg t f s pc h ho hoa hg hga hgg hm hc hB _ (wrap_small (by omega) (by omega))
  · rcases n with _ | _ | n
    · rw [sv_under (by decide) (by rw [hl]; decide)]
      exact runU w bs g 0 cp ga m ca B st ce 5 arg t f s pc h ho (by decide) (fun W hW _ => tnU2 W bs _ cp 5 arg t f s (pc + 1) _ 0 0 0 0 0 0 (by decide) hW)
    · rw [sv_under (by decide) (by rw [hl]; decide)]
      exact runU w bs g 1 cp ga m ca B st ce 5 arg t f s pc h ho (by decide) (fun W hW hOW => tnU3 W bs g cp (st.getD 0 0) 5 arg t f s (pc + 1) _ 0 0 0 0 0 0 (by decide) hOW.cap hW (hOW.top (by omega)))
    · rw [sv2 (by decide) (by decide) hl]
      have hx : isW (st.getD (n + 1) 0) := cpuR_top hc (by omega)
      have hy : isW (st.getD n 0) := cpuR_top hc (by omega)
      unfold isW at hx hy
      exact run5 w bs g n cp ga m ca B st ce arg t f s pc h ho hoa hg hga hgg hm hc hB _ (wrap_small (by omega) (by omega))
  · rcases n with _ | _ | n
    · rw [sv_under (by decide) (by rw [hl]; decide)]
      exact runU w bs g 0 cp ga m ca B st ce 6 arg t f s pc h ho (by decide) (fun W hW _ => tnU2 W bs _ cp 6 arg t f s (pc + 1) _ 0 0 0 0 0 0 (by decide) hW)
    · rw [sv_under (by decide) (by rw [hl]; decide)]
      exact runU w bs g 1 cp ga m ca B st ce 6 arg t f s pc h ho (by decide) (fun W hW hOW => tnU3 W bs g cp (st.getD 0 0) 6 arg t f s (pc + 1) _ 0 0 0 0 0 0 (by decide) hOW.cap hW (hOW.top (by omega)))
    · rw [sv2 (by decide) (by decide) hl]
      have hx : isW (st.getD (n + 1) 0) := cpuR_top hc (by omega)
      have hy : isW (st.getD n 0) := cpuR_top hc (by omega)
      unfold isW at hx hy
      have hmul := isW_mul hx hy
      exact run6 w bs g n cp ga m ca B st ce arg t f s pc h ho hoa hg hga hgg hm hc hB _ (wrap_small (by omega) (by omega))
  · rcases n with _ | _ | n
    · rw [sv_under (by decide) (by rw [hl]; decide)]
      exact runU w bs g 0 cp ga m ca B st ce 7 arg t f s pc h ho (by decide) (fun W hW _ => tnU2 W bs _ cp 7 arg t f s (pc + 1) _ 0 0 0 0 0 0 (by decide) hW)
    · rw [sv_under (by decide) (by rw [hl]; decide)]
      exact runU w bs g 1 cp ga m ca B st ce 7 arg t f s pc h ho (by decide) (fun W hW hOW => tnU3 W bs g cp (st.getD 0 0) 7 arg t f s (pc + 1) _ 0 0 0 0 0 0 (by decide) hOW.cap hW (hOW.top (by omega)))
    · rw [sv2 (by decide) (by decide) hl]
      have hx : isW (st.getD (n + 1) 0) := cpuR_top hc (by omega)
      have hy : isW (st.getD n 0) := cpuR_top hc (by omega)
      unfold isW at hx hy
      by_cases hk : st.getD (n + 1) 0 = 0
      · rw [dv7, if_pos hk]; exact run7N w bs g n cp ga m ca B st ce arg t f s pc h ho hoa hg hga hgg hm hc hB hk
      · have hdv := isW_div hx hy hk
        rw [dv7, if_neg hk]; exact run7Y w bs g n cp ga m ca B st ce arg t f s pc h ho hoa hg hga hgg hm hc hB _ (wrap_small (by omega) (by omega)) hk
  · rcases n with _ | _ | n
    · rw [sv_under (by decide) (by rw [hl]; decide)]
      exact runU w bs g 0 cp ga m ca B st ce 8 arg t f s pc h ho (by decide) (fun W hW _ => tnU2 W bs _ cp 8 arg t f s (pc + 1) _ 0 0 0 0 0 0 (by decide) hW)
    · rw [sv_under (by decide) (by rw [hl]; decide)]
      exact runU w bs g 1 cp ga m ca B st ce 8 arg t f s pc h ho (by decide) (fun W hW hOW => tnU3 W bs g cp (st.getD 0 0) 8 arg t f s (pc + 1) _ 0 0 0 0 0 0 (by decide) hOW.cap hW (hOW.top (by omega)))
    · rw [sv2 (by decide) (by decide) hl]
      have hx : isW (st.getD (n + 1) 0) := cpuR_top hc (by omega)
      have hy : isW (st.getD n 0) := cpuR_top hc (by omega)
      unfold isW at hx hy
      exact run8 w bs g n cp ga m ca B st ce arg t f s pc h ho hoa hg hga hgg hm hc hB _ rfl
  · rw [sv0 (by decide) (by decide)]
    exact run9 w bs g n cp ga m ca B st ce arg t f s pc h ho hoa hg hga hgg hm hc hB
  · rcases n with _ | n
    · rw [sv_under (by decide) (by rw [hl]; decide)]
      exact runU w bs g 0 cp ga m ca B st ce 10 arg t f s pc h ho (by decide) (fun W hW _ => tnU1 W bs _ cp 10 arg t f s (pc + 1) _ 0 0 0 0 0 0 (by decide) hW)
    · rw [sv1 (by decide) (by decide) hl]
      have hx : isW (st.getD n 0) := cpuR_top hc (by omega)
      exact run10 w bs g n cp ga m ca B st ce arg t f s pc h ho hoa hg hga hgg hm hc hB _ rfl
  · rcases n with _ | n
    · rw [sv_under (by decide) (by rw [hl]; decide)]
      exact runU w bs g 0 cp ga m ca B st ce 11 arg t f s pc h ho (by decide) (fun W hW _ => tnU1 W bs _ cp 11 arg t f s (pc + 1) _ 0 0 0 0 0 0 (by decide) hW)
    · rw [sv1 (by decide) (by decide) hl]
      have hx : isW (st.getD n 0) := cpuR_top hc (by omega)
      by_cases hk : n + 1 = 8
      · rw [dv11, if_pos (by omega)]; exact run11N w bs g n cp ga m ca B st ce arg t f s pc h ho hoa hg hga hgg hm hc hB hk
      · rw [dv11, if_neg (by omega)]; exact run11Y w bs g n cp ga m ca B st ce arg t f s pc h ho hoa hg hga hgg hm hc hB hk
  · rcases n with _ | n
    · rw [sv_under (by decide) (by rw [hl]; decide)]
      exact runU w bs g 0 cp ga m ca B st ce 12 arg t f s pc h ho (by decide) (fun W hW _ => tnU1 W bs _ cp 12 arg t f s (pc + 1) _ 0 0 0 0 0 0 (by decide) hW)
    · rw [sv1 (by decide) (by decide) hl]
      have hx : isW (st.getD n 0) := cpuR_top hc (by omega)
      exact run12 w bs g n cp ga m ca B st ce arg t f s pc h ho hoa hg hga hgg hm hc hB
  · rcases n with _ | n
    · rw [sv_under (by decide) (by rw [hl]; decide)]
      exact runU w bs g 0 cp ga m ca B st ce 13 arg t f s pc h ho (by decide) (fun W hW _ => tnU1 W bs _ cp 13 arg t f s (pc + 1) _ 0 0 0 0 0 0 (by decide) hW)
    · rw [sv1 (by decide) (by decide) hl]
      have hx : isW (st.getD n 0) := cpuR_top hc (by omega)
      exact run13 w bs g n cp ga m ca B st ce arg t f s pc h ho hoa hg hga hgg hm hc hB
  · rw [sv0 (by decide) (by decide)]
    exact run14 w bs g n cp ga m ca B st ce arg t f s pc h ho hoa hg hga hgg hm hc hB
  · rw [sv0 (by decide) (by decide)]
    exact run15 w bs g n cp ga m ca B st ce arg t f s pc h ho hoa hg hga hgg hm hc hB
  · rcases n with _ | n
    · rw [sv_under (by decide) (by rw [hl]; decide)]
      exact runU w bs g 0 cp ga m ca B st ce 16 arg t f s pc h ho (by decide) (fun W hW _ => tnU1 W bs _ cp 16 arg t f s (pc + 1) _ 0 0 0 0 0 0 (by decide) hW)
    · rw [sv1 (by decide) (by decide) hl]
      have hx : isW (st.getD n 0) := cpuR_top hc (by omega)
      exact run16 w bs g n cp ga m ca B st ce arg t f s pc h ho hoa hg hga hgg hm hc hB
  · rw [sv0 (by decide) (by decide)]
    by_cases hk : n = 8
    · rw [dv17, if_pos (by omega)]; exact run17N w bs g n cp ga m ca B st ce arg t f s pc h ho hoa hg hga hgg hm hc hB hk
    · rw [dv17, if_neg (by omega)]; exact run17Y w bs g n cp ga m ca B st ce arg t f s pc h ho hoa hg hga hgg hm hc hB hk
end Go.Proofs.Ythnocibkgpofnaa
