/-
  An instruction at work: cells that are loaded and stored.
-/
import Derived.Test.YthnocibkgpofnaaStep3
namespace Go.Proofs.Ythnocibkgpofnaa
open Go.RowKit Go.PlainAid
set_option linter.unusedVariables false

theorem ld_keep {w W' : World} {bs m ga ca : Nat} {op arg t f s pc : Int} {sv : Value} {k po nu tr a b : Int} (h : StepIs w bs op arg t f s pc sv (.slice (some ⟨ga, 0, none⟩) m ca) k po nu tr a b) (hB : Below w.heap.size w W') :
    W'.cell? ⟨bs, 7, none⟩ = some (.slice (some ⟨ga, 0, none⟩) m ca) ∧ W'.cell? ⟨bs, 3, none⟩ = some (.int .i64 f) ∧ W'.cell? ⟨bs, 4, none⟩ = some (.int .i64 s) ∧ W'.cell? ⟨bs, 12, none⟩ = some (.int .i64 a) ∧ W'.cell? ⟨bs, 1, none⟩ = some (.int .i64 arg) ∧ W'.cell? ⟨bs, 13, none⟩ = some (.int .i64 b) ∧ Below w.heap.size w W' := by
  have kf := (h.on hB).facts
  exact ⟨kf.2.2.2.2.2.2.2.1, kf.2.2.2.1, kf.2.2.2.2.1, kf.2.2.2.2.2.2.2.2.2.2.2.2.1, kf.2.1, kf.2.2.2.2.2.2.2.2.2.2.2.2.2.1, hB⟩
theorem ld_on {w W W' : World} {p1 p2 p3 p4 p5 p6 : Addr} {v1 v2 v3 v4 v5 v6 : Value} (hb : Below W.heap.size W W') (h : W.cell? p1 = some v1 ∧ W.cell? p2 = some v2 ∧ W.cell? p3 = some v3 ∧ W.cell? p4 = some v4 ∧ W.cell? p5 = some v5 ∧ W.cell? p6 = some v6 ∧ Below w.heap.size w W) : Below w.heap.size w W' := bel_on (Nat.le_refl _) h.2.2.2.2.2.2 hb
theorem ld_bel {w W : World} {p1 p2 p3 p4 p5 p6 : Addr} {v1 v2 v3 v4 v5 v6 : Value} (h : W.cell? p1 = some v1 ∧ W.cell? p2 = some v2 ∧ W.cell? p3 = some v3 ∧ W.cell? p4 = some v4 ∧ W.cell? p5 = some v5 ∧ W.cell? p6 = some v6 ∧ Below w.heap.size w W) : Below w.heap.size w W := h.2.2.2.2.2.2
theorem ld_alloc {w W : World} {p1 p2 p3 p4 p5 p6 : Addr} {v1 v2 v3 v4 v5 v6 : Value} (h : W.cell? p1 = some v1 ∧ W.cell? p2 = some v2 ∧ W.cell? p3 = some v3 ∧ W.cell? p4 = some v4 ∧ W.cell? p5 = some v5 ∧ W.cell? p6 = some v6 ∧ Below w.heap.size w W) (o : Obj) : Below w.heap.size w (W.alloc o) := h.2.2.2.2.2.2.alloc h.2.2.2.2.2.2.size o
theorem loadI' (a : Option Addr) (l : List Int) (n cap : Nat) (f s p V : Int) (B : Bool) (hl : l.length = n) (hn : n ≤ 1048576) (hcap : n ≤ cap) (hV : ldX l f s p = V) (hB : ldB n f s p = B) (w : World) (hr : Rd w a l) :
    Calls Try.prog 98 #[.agg #[.slice a n cap], .agg #[.int .i64 f, .int .i64 s], .int .i64 p] w fun e w' => e = .returned (.tuple #[.int .i64 V, .bool B]) ∧ Below w.heap.size w w' := by
  subst hV hB; exact loadI a l n cap f s p hl hn hcap w hr
theorem storeI' (a : Option Addr) (l : List Int) (n cap : Nat) (f s p x : Int) (E : List Int) (B : Bool) (hl : l.length = n) (hn : n ≤ 1048576) (hcap : n ≤ cap) (hE : stL l f s p x = E) (hB : ldB n f s p = B) (w : World) (hr : Rd w a l) :
    Calls Try.prog 99 #[.agg #[.slice a n cap], .agg #[.int .i64 f, .int .i64 s], .int .i64 p, .int .i64 x] w fun e w' => ∃ g, e = .returned (.tuple #[.agg #[.slice (some ⟨g, 0, none⟩) n n], .bool B]) ∧ w.heap.size ≤ g ∧ RowAt w' g E ∧ Below w.heap.size w w' := by
  subst hE hB; exact storeI a l n cap f s p x hl hn hcap w hr

set_option maxRecDepth 100000 in
set_option maxHeartbeats 2000000 in
theorem loadY (w : World) (bs g n cp ga m ca : Nat) (st ce : List Int) (op arg t f s pc : Int) (k po nu tr a b : Int) (X V : Int) (h : StepIs w bs op arg t f s pc (.slice (some ⟨g, 0, none⟩) n cp) (.slice (some ⟨ga, 0, none⟩) m ca) k po nu tr a b) (hX : IntKind.i64.wrap (a + arg) = X) (hra : Rd w (some ⟨ga, 0, none⟩) ce) (hla : ce.length = m) (hm : m ≤ 1048576) (hma : m ≤ ca) (hV : ldX ce f s X = V) (hB : ldB m f s X = true) (hr : Rd w (some ⟨g, 0, none⟩) st) (hl : st.length = n) (hc : CpuR pc st) (h8 : n ≠ 8) :
    Calls Try.prog 84 #[.pointer (some ⟨bs, 0, none⟩)] w fun e w' => e = .returned (.tuple #[]) ∧ ∃ g' c', StepIs w' bs op arg t f s pc (.slice (some ⟨g', 0, none⟩) (n + 1) c') (.slice (some ⟨ga, 0, none⟩) m ca) k po nu tr a b ∧ OwnN w' w.heap.size g' (n + 1) c' (st ++ [V % 65536]) ∧ w.grownBy w' (some bs) := by
  have HS : Hid (StepIs _ _ _ _ _ _ _ _ _ _ _ _ _ _ _ _) := h
  have HR : Hid (Rd _ _ _) := hr
  have HL : Hid (st.length = n) := hl
  have HC : Hid (CpuR pc st) := hc
  have H8 : Hid (n ≠ 8) := h8
  have HRA : Hid (Rd _ _ _) := hra
  have HLA : Hid (ce.length = m) := hla
  have HV : Hid (ldX ce f s X = V) := hV
  have HBB : Hid (ldB m f s X = true) := hB
  clear h hr hl hc h8 hra hla hV hB
  go_enter Try.func84, Try.ntmps84
  go_wp2_with fail
  go_region_held3 (fun w' => w'.cell? ⟨bs, 7, none⟩ = some (.slice (some ⟨ga, 0, none⟩) m ca) ∧ w'.cell? ⟨bs, 3, none⟩ = some (.int .i64 f) ∧ w'.cell? ⟨bs, 4, none⟩ = some (.int .i64 s) ∧ w'.cell? ⟨bs, 12, none⟩ = some (.int .i64 a) ∧ w'.cell? ⟨bs, 1, none⟩ = some (.int .i64 arg) ∧ w'.cell? ⟨bs, 13, none⟩ = some (.int .i64 b) ∧ Below w.heap.size w w') (first | (exact ld_keep HS.out HBz.out) | (exact ld_keep HS.out (ld_on (by assumption) (by assumption))) | (exact ld_keep HS.out (Below.refl _ _).drew)) (first | (go_at_call 98; refine (loadI' (some ⟨ga, 0, none⟩) ce m ca f s X V true HLA.out hm hma HV.out HBB.out _ ?_).mono ?_; (exact HRA.out.on (ld_bel (by assumption))); rintro e w1 ⟨rfl, hb1⟩; have HBz : Hid (Below w.heap.size w w1) := ld_on hb1 (by assumption)))
  rename_i HH
  clear HH hb1
  have HS1 : Hid (StepIs _ _ _ _ _ _ _ _ _ _ _ _ _ _ _ _) := HS.out.on HBz.out
  have HR1 : Hid (Rd _ _ _) := HR.out.on HBz.out
  go_wp2_with fail
  refine (putY w1 bs g n cp st V op arg t f s pc (.slice (some ⟨ga, 0, none⟩) m ca) k po nu tr a b HS1.out HR1.out HL.out HC.out H8.out).mono ?_
  rintro e w2 ⟨rfl, g', c', h1, hown, hg⟩
  have H1 : Hid (StepIs _ _ _ _ _ _ _ _ _ _ _ _ _ _ _ _) := h1
  have HO : Hid (OwnN _ _ _ _ _ _) := hown.mono HBz.out.size
  have HG : Hid (w.grownBy w2 _) := grown_trans' (below_grown HBz.out) hg
  clear h1 hown hg
  go_wp2
  go_end0
  exact ⟨rfl, g', c', H1.out, HO.out, HG.out⟩
set_option maxRecDepth 100000 in
set_option maxHeartbeats 2000000 in
theorem loadN (w : World) (bs g n cp ga m ca : Nat) (st ce : List Int) (op arg t f s pc : Int) (k po nu tr a b : Int) (X V : Int) (h : StepIs w bs op arg t f s pc (.slice (some ⟨g, 0, none⟩) n cp) (.slice (some ⟨ga, 0, none⟩) m ca) k po nu tr a b) (hX : IntKind.i64.wrap (a + arg) = X) (hra : Rd w (some ⟨ga, 0, none⟩) ce) (hla : ce.length = m) (hm : m ≤ 1048576) (hma : m ≤ ca) (hV : ldX ce f s X = V) (hB : ldB m f s X = false) :
    Calls Try.prog 84 #[.pointer (some ⟨bs, 0, none⟩)] w fun e w' => e = .returned (.tuple #[]) ∧ StepIs w' bs op arg t f s pc (.slice (some ⟨g, 0, none⟩) n cp) (.slice (some ⟨ga, 0, none⟩) m ca) 0 0 0 2 a b ∧ w.grownBy w' (some bs) := by
  have HS : Hid (StepIs _ _ _ _ _ _ _ _ _ _ _ _ _ _ _ _) := h
  have HRA : Hid (Rd _ _ _) := hra
  have HLA : Hid (ce.length = m) := hla
  have HV : Hid (ldX ce f s X = V) := hV
  have HBB : Hid (ldB m f s X = false) := hB
  clear h hra hla hV hB
  go_enter Try.func84, Try.ntmps84
  go_wp2_with fail
  go_region_held3 (fun w' => w'.cell? ⟨bs, 7, none⟩ = some (.slice (some ⟨ga, 0, none⟩) m ca) ∧ w'.cell? ⟨bs, 3, none⟩ = some (.int .i64 f) ∧ w'.cell? ⟨bs, 4, none⟩ = some (.int .i64 s) ∧ w'.cell? ⟨bs, 12, none⟩ = some (.int .i64 a) ∧ w'.cell? ⟨bs, 1, none⟩ = some (.int .i64 arg) ∧ w'.cell? ⟨bs, 13, none⟩ = some (.int .i64 b) ∧ Below w.heap.size w w') (first | (exact ld_keep HS.out HBz.out) | (exact ld_keep HS.out (ld_on (by assumption) (by assumption))) | (exact ld_keep HS.out (Below.refl _ _).drew)) (first | (go_at_call 98; refine (loadI' (some ⟨ga, 0, none⟩) ce m ca f s X V false HLA.out hm hma HV.out HBB.out _ ?_).mono ?_; (exact HRA.out.on (ld_bel (by assumption))); rintro e w1 ⟨rfl, hb1⟩; have HBz : Hid (Below w.heap.size w w1) := ld_on hb1 (by assumption)))
  rename_i HH
  clear HH hb1
  have HS1 : Hid (StepIs _ _ _ _ _ _ _ _ _ _ _ _ _ _ _ _) := HS.out.on HBz.out
  go_wp2_with fail
  refine (trapI w1 bs op arg t f s pc (.slice (some ⟨g, 0, none⟩) n cp) (.slice (some ⟨ga, 0, none⟩) m ca) k po nu tr a b 2 HS1.out).mono ?_
  rintro e w2 ⟨rfl, h1, hg⟩
  have H1 : Hid (StepIs _ _ _ _ _ _ _ _ _ _ _ _ _ _ _ _) := h1
  have HG : Hid (w.grownBy w2 _) := grown_trans' (below_grown HBz.out) hg
  clear h1 hg
  go_wp2
  refine bodyPost_ret (v := .tuple #[]) (by simp [results, Try.results84, go_sem]) rfl ⟨rfl, H1.out, HG.out⟩

set_option maxRecDepth 100000 in
set_option maxHeartbeats 4000000 in
theorem storeY (w : World) (bs g n cp ga m ca : Nat) (st ce : List Int) (op arg t f s pc : Int) (k po nu tr a b : Int) (X : Int) (E : List Int) (h : StepIs w bs op arg t f s pc (.slice (some ⟨g, 0, none⟩) n cp) (.slice (some ⟨ga, 0, none⟩) m ca) k po nu tr a b) (hX : IntKind.i64.wrap (a + arg) = X) (hra : Rd w (some ⟨ga, 0, none⟩) ce) (hla : ce.length = m) (hm : m ≤ 1048576) (hma : m ≤ ca) (hE : stL ce f s X b = E) (hB : ldB m f s X = true) :
    Calls Try.prog 85 #[.pointer (some ⟨bs, 0, none⟩)] w fun e w' => e = .returned (.tuple #[]) ∧ ∃ g', StepIs w' bs op arg t f s pc (.slice (some ⟨g, 0, none⟩) n cp) (.slice (some ⟨g', 0, none⟩) m m) k po nu tr a b ∧ OwnN w' w.heap.size g' m m E ∧ w.grownBy w' (some bs) := by
  have HS : Hid (StepIs _ _ _ _ _ _ _ _ _ _ _ _ _ _ _ _) := h
  have HRA : Hid (Rd _ _ _) := hra
  have HLA : Hid (ce.length = m) := hla
  have HE : Hid (stL ce f s X b = E) := hE
  have HBB : Hid (ldB m f s X = true) := hB
  have HEL : Hid (E.length = m) := by rw [← hE, stL_len]; exact hla
  clear h hra hla hE hB
  go_enter Try.func85, Try.ntmps85
  go_wp2_with fail
  go_cut [2, 3] (fun pz bz wc => bz = .bool true ∧ ∃ (b5 g5 : Nat), pz = .pointer (some ⟨b5, 0, none⟩) ∧ Hid (BoxR w wc b5 g5 m E))
  case first =>
    go_region_held3 (fun w' => w'.cell? ⟨bs, 7, none⟩ = some (.slice (some ⟨ga, 0, none⟩) m ca) ∧ w'.cell? ⟨bs, 3, none⟩ = some (.int .i64 f) ∧ w'.cell? ⟨bs, 4, none⟩ = some (.int .i64 s) ∧ w'.cell? ⟨bs, 12, none⟩ = some (.int .i64 a) ∧ w'.cell? ⟨bs, 1, none⟩ = some (.int .i64 arg) ∧ w'.cell? ⟨bs, 13, none⟩ = some (.int .i64 b) ∧ Below w.heap.size w w') (first | (exact ld_keep HS.out HBz.out) | (exact ld_keep HS.out (ld_on (by assumption) (by assumption))) | (exact ld_keep HS.out (Below.refl _ _).drew) | (exact ld_keep HS.out (HBz.out.alloc HBz.out.size _)) | (exact ld_keep HS.out (HBz.out.setCell (by first | exact Nat.le_refl _ | omega | (simp <;> omega)) _)) | (exact ld_keep HS.out (ld_alloc (by assumption) _))) (first | (go_at_call 99; refine (storeI' (some ⟨ga, 0, none⟩) ce m ca f s X b E true HLA.out hm hma HE.out HBB.out _ ?_).mono ?_; (exact HRA.out.on (ld_bel (by assumption))); rintro e wF ⟨gF, rfl, hgF, hrowF, hbF⟩; (try simp at hgF); have ssF := hbF.size; (try simp at ssF); have HBz : Hid (Below w.heap.size w wF) := ld_on hbF (by assumption); (first | (have z4 := row_on (heap_new w (.cells #[.slice none 0 0] 34)) (undrew hbF); have kz := row1_cells z4; have HZ4 : Hid (_ = _) := z4; clear z4) | skip)))
    all_goals (try go_wp2_with fail)
    all_goals go_meet
    all_goals first | exact ⟨rfl, _, _, rfl, boxR_alloc HBz.out hrowF (by first | exact Nat.le_refl _ | omega | (simp <;> omega))⟩ | exact ⟨rfl, _, _, rfl, boxR_set HBz.out HZ4.out hrowF (by first | exact Nat.le_refl _ | omega | (simp <;> omega)) (by first | exact Nat.le_refl _ | omega | (simp <;> omega)) (by first | exact Nat.le_refl _ | omega | (simp <;> omega))⟩
  case rest =>
  rename World => wC
  obtain ⟨rfl, b5, g5, rfl, HBX⟩ := hcut
  have HS1 : Hid (StepIs _ _ _ _ _ _ _ _ _ _ _ _ _ _ _ _) := HS.out.on HBX.out.2.2.2.2.2
  have kb := row1_cells HBX.out.1
  have kf := HS1.out.facts
  have hlt := HS.out.lt
  have l5 := HBX.out.2.2.1
  have lg := HBX.out.2.2.2.1
  have n1 : ¬ b5 = bs := by omega
  have n2 : ¬ bs = b5 := by omega
  go_wp2
  go_end0
  refine ⟨rfl, g5, HS1.out.setA _, ?_, grown_trans' (below_grown HBX.out.2.2.2.2.2) (grown_put _ _ _ _)⟩
  exact (RowAt.ownN HBX.out.2.1 lg HEL.out hm).set (by omega)
set_option maxRecDepth 100000 in
set_option maxHeartbeats 4000000 in
theorem storeN (w : World) (bs g n cp ga m ca : Nat) (st ce : List Int) (op arg t f s pc : Int) (k po nu tr a b : Int) (X : Int) (E : List Int) (h : StepIs w bs op arg t f s pc (.slice (some ⟨g, 0, none⟩) n cp) (.slice (some ⟨ga, 0, none⟩) m ca) k po nu tr a b) (hX : IntKind.i64.wrap (a + arg) = X) (hra : Rd w (some ⟨ga, 0, none⟩) ce) (hla : ce.length = m) (hm : m ≤ 1048576) (hma : m ≤ ca) (hE : stL ce f s X b = E) (hB : ldB m f s X = false) :
    Calls Try.prog 85 #[.pointer (some ⟨bs, 0, none⟩)] w fun e w' => e = .returned (.tuple #[]) ∧ StepIs w' bs op arg t f s pc (.slice (some ⟨g, 0, none⟩) n cp) (.slice (some ⟨ga, 0, none⟩) m ca) 0 0 0 2 a b ∧ w.grownBy w' (some bs) := by
  have HS : Hid (StepIs _ _ _ _ _ _ _ _ _ _ _ _ _ _ _ _) := h
  have HRA : Hid (Rd _ _ _) := hra
  have HLA : Hid (ce.length = m) := hla
  have HE : Hid (stL ce f s X b = E) := hE
  have HBB : Hid (ldB m f s X = false) := hB
  clear h hra hla hE hB
  go_enter Try.func85, Try.ntmps85
  go_wp2_with fail
  go_cut [2, 3] (fun pz bz wc => bz = .bool false ∧ ∃ (b5 g5 : Nat), pz = .pointer (some ⟨b5, 0, none⟩) ∧ Hid (BoxR w wc b5 g5 m E))
  case first =>
    go_region_held3 (fun w' => w'.cell? ⟨bs, 7, none⟩ = some (.slice (some ⟨ga, 0, none⟩) m ca) ∧ w'.cell? ⟨bs, 3, none⟩ = some (.int .i64 f) ∧ w'.cell? ⟨bs, 4, none⟩ = some (.int .i64 s) ∧ w'.cell? ⟨bs, 12, none⟩ = some (.int .i64 a) ∧ w'.cell? ⟨bs, 1, none⟩ = some (.int .i64 arg) ∧ w'.cell? ⟨bs, 13, none⟩ = some (.int .i64 b) ∧ Below w.heap.size w w') (first | (exact ld_keep HS.out HBz.out) | (exact ld_keep HS.out (ld_on (by assumption) (by assumption))) | (exact ld_keep HS.out (Below.refl _ _).drew) | (exact ld_keep HS.out (HBz.out.alloc HBz.out.size _)) | (exact ld_keep HS.out (HBz.out.setCell (by first | exact Nat.le_refl _ | omega | (simp <;> omega)) _)) | (exact ld_keep HS.out (ld_alloc (by assumption) _))) (first | (go_at_call 99; refine (storeI' (some ⟨ga, 0, none⟩) ce m ca f s X b E false HLA.out hm hma HE.out HBB.out _ ?_).mono ?_; (exact HRA.out.on (ld_bel (by assumption))); rintro e wF ⟨gF, rfl, hgF, hrowF, hbF⟩; (try simp at hgF); have ssF := hbF.size; (try simp at ssF); have HBz : Hid (Below w.heap.size w wF) := ld_on hbF (by assumption); (first | (have z4 := row_on (heap_new w (.cells #[.slice none 0 0] 34)) (undrew hbF); have kz := row1_cells z4; have HZ4 : Hid (_ = _) := z4; clear z4) | skip)))
    all_goals (try go_wp2_with fail)
    all_goals go_meet
    all_goals first | exact ⟨rfl, _, _, rfl, boxR_alloc HBz.out hrowF (by first | exact Nat.le_refl _ | omega | (simp <;> omega))⟩ | exact ⟨rfl, _, _, rfl, boxR_set HBz.out HZ4.out hrowF (by first | exact Nat.le_refl _ | omega | (simp <;> omega)) (by first | exact Nat.le_refl _ | omega | (simp <;> omega)) (by first | exact Nat.le_refl _ | omega | (simp <;> omega))⟩
  case rest =>
  rename World => wC
  obtain ⟨rfl, b5, g5, rfl, HBX⟩ := hcut
  have HS1 : Hid (StepIs _ _ _ _ _ _ _ _ _ _ _ _ _ _ _ _) := HS.out.on HBX.out.2.2.2.2.2
  go_wp2_with fail
  refine (trapI wC bs op arg t f s pc (.slice (some ⟨g, 0, none⟩) n cp) (.slice (some ⟨ga, 0, none⟩) m ca) k po nu tr a b 2 HS1.out).mono ?_
  rintro e w2 ⟨rfl, h1, hg⟩
  have H1 : Hid (StepIs _ _ _ _ _ _ _ _ _ _ _ _ _ _ _ _) := h1
  have HG : Hid (w.grownBy w2 _) := grown_trans' (below_grown HBX.out.2.2.2.2.2) hg
  clear h1 hg
  go_wp2
  refine bodyPost_ret (v := .tuple #[]) (by simp [results, Try.results85, go_sem]) rfl ⟨rfl, H1.out, HG.out⟩
end Go.Proofs.Ythnocibkgpofnaa
