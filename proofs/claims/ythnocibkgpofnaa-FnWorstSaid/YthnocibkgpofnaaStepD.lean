/-
  A step of the program: where there is none.
-/
import Derived.Test.YthnocibkgpofnaaStepC
namespace Go.Proofs.Ythnocibkgpofnaa
open Go.RowKit Go.PlainAid
set_option linter.unusedVariables false

/-- the six boxes of a step: what came in, what is handed back -/
def Six (w W : World) (pc : Int) (sv av : Value) (f s : Int) : Prop :=
  W.heap[w.heap.size]? = some (.cells #[.int .i64 pc, sv] 55) ∧ W.heap[w.heap.size + 1]? = some (.cells #[av] 34) ∧ W.heap[w.heap.size + 2]? = some (.cells #[.int .i64 f, .int .i64 s] 36) ∧
  W.heap[w.heap.size + 3]? = some (.cells #[.int .i64 0, .slice none 0 0] 55) ∧ W.heap[w.heap.size + 4]? = some (.cells #[.slice none 0 0] 34) ∧ W.heap[w.heap.size + 5]? = some (.cells #[.int .i64 0, .int .i64 0, .int .i64 0, .int .i64 0] 58) ∧ Below w.heap.size w W
def sixW (w : World) (pc : Int) (sv av : Value) (f s : Int) : World := (((((w.alloc (.cells #[.int .i64 pc, sv] 55)).alloc (.cells #[av] 34)).alloc (.cells #[.int .i64 f, .int .i64 s] 36)).alloc (.cells #[.int .i64 0, .slice none 0 0] 55)).alloc (.cells #[.slice none 0 0] 34)).alloc (.cells #[.int .i64 0, .int .i64 0, .int .i64 0, .int .i64 0] 58)
theorem heap_newk (w : World) (o : Obj) (k : Nat) (hk : k = w.heap.size) : (w.alloc o).heap[k]? = some o := by subst hk; exact heap_new w o
theorem row_al {w : World} {o p : Obj} {k : Nat} (h : w.heap[k]? = some p) : (w.alloc o).heap[k]? = some p := (Below.heap_alloc _ _ _ (row_lt h)).trans h
theorem six_start (w : World) (pc : Int) (sv av : Value) (f s : Int) : Six w (sixW w pc sv av f s) pc sv av f s := by
  unfold sixW
  refine ⟨row_al (row_al (row_al (row_al (row_al (heap_new _ _))))), row_al (row_al (row_al (row_al (heap_newk _ _ _ (by simp))))), row_al (row_al (row_al (heap_newk _ _ _ (by simp)))), row_al (row_al (heap_newk _ _ _ (by simp))), row_al (heap_newk _ _ _ (by simp)), heap_newk _ _ _ (by simp), ?_⟩
  exact ((((((Below.refl _ _).alloc (Nat.le_refl _) _).alloc (by simp) _).alloc (by simp; omega) _).alloc (by simp; omega) _).alloc (by simp; omega) _).alloc (by simp; omega) _
section
variable {w W W' : World} {pc : Int} {sv av : Value} {f s : Int}
theorem Six.on (h : Six w W pc sv av f s) (hb : Below W.heap.size W W') : Six w W' pc sv av f s :=
  ⟨row_on h.1 hb, row_on h.2.1 hb, row_on h.2.2.1 hb, row_on h.2.2.2.1 hb, row_on h.2.2.2.2.1 hb, row_on h.2.2.2.2.2.1 hb, bel_on (Nat.le_refl _) h.2.2.2.2.2.2 hb⟩
theorem Six.lt (h : Six w W pc sv av f s) : w.heap.size + 6 ≤ W.heap.size := row_lt h.2.2.2.2.2.1
theorem Six.bel (h : Six w W pc sv av f s) : Below w.heap.size w W := h.2.2.2.2.2.2
theorem Six.grown {k : Nat} (h : Six w W pc sv av f s) (hg : W.grownBy W' (some k)) (hk : w.heap.size + 6 ≤ k) : Six w W' pc sv av f s :=
  ⟨grown_row hg h.1 (fun e => by have := Option.some.inj e; omega), grown_row hg h.2.1 (fun e => by have := Option.some.inj e; omega), grown_row hg h.2.2.1 (fun e => by have := Option.some.inj e; omega), grown_row hg h.2.2.2.1 (fun e => by have := Option.some.inj e; omega), grown_row hg h.2.2.2.2.1 (fun e => by have := Option.some.inj e; omega), grown_row hg h.2.2.2.2.2.1 (fun e => by have := Option.some.inj e; omega), h.bel.grown hg h.bel.size (fun j hj => by cases hj; omega)⟩
/-- the boxes of what is handed back -/
theorem row4_cells {w : World} {k : Nat} {t : TypeId} {x y z u : Value} (h : w.heap[k]? = some (.cells #[x, y, z, u] t)) :
    w.cell? ⟨k, 0, none⟩ = some x ∧ w.cell? ⟨k, 1, none⟩ = some y ∧ w.cell? ⟨k, 2, none⟩ = some z ∧ w.cell? ⟨k, 3, none⟩ = some u ∧ w.frozen? ⟨k, 0, none⟩ = false ∧ w.frozen? ⟨k, 1, none⟩ = false ∧ w.frozen? ⟨k, 2, none⟩ = false ∧ w.frozen? ⟨k, 3, none⟩ = false := by
  refine ⟨?_, ?_, ?_, ?_, ?_, ?_, ?_, ?_⟩ <;> simp [World.cell?, World.frozen?, h]
theorem Six.outs (h : Six w W pc sv av f s) :
    (W.cell? ⟨w.heap.size + 3, 0, none⟩ = some (.int .i64 0) ∧ W.cell? ⟨w.heap.size + 3, 1, none⟩ = some (.slice none 0 0) ∧ W.frozen? ⟨w.heap.size + 3, 0, none⟩ = false ∧ W.frozen? ⟨w.heap.size + 3, 1, none⟩ = false) ∧ (W.cell? ⟨w.heap.size + 4, 0, none⟩ = some (.slice none 0 0) ∧ W.frozen? ⟨w.heap.size + 4, 0, none⟩ = false) ∧
    (W.cell? ⟨w.heap.size + 5, 0, none⟩ = some (.int .i64 0) ∧ W.cell? ⟨w.heap.size + 5, 1, none⟩ = some (.int .i64 0) ∧ W.cell? ⟨w.heap.size + 5, 2, none⟩ = some (.int .i64 0) ∧ W.cell? ⟨w.heap.size + 5, 3, none⟩ = some (.int .i64 0) ∧ W.frozen? ⟨w.heap.size + 5, 0, none⟩ = false ∧ W.frozen? ⟨w.heap.size + 5, 1, none⟩ = false ∧ W.frozen? ⟨w.heap.size + 5, 2, none⟩ = false ∧ W.frozen? ⟨w.heap.size + 5, 3, none⟩ = false) :=
  ⟨row2_cells h.2.2.2.1, row1_cells h.2.2.2.2.1, row4_cells h.2.2.2.2.2.1⟩
end
theorem s3_on {w W W' : World} {x y z : Value} (hb : Below W.heap.size W W') (h : W.cell? ⟨w.heap.size, 0, none⟩ = some x ∧ W.cell? ⟨w.heap.size, 1, none⟩ = some y ∧ W.cell? ⟨w.heap.size + 1, 0, none⟩ = some z ∧ Below w.heap.size w W) :
    W'.cell? ⟨w.heap.size, 0, none⟩ = some x ∧ W'.cell? ⟨w.heap.size, 1, none⟩ = some y ∧ W'.cell? ⟨w.heap.size + 1, 0, none⟩ = some z ∧ Below w.heap.size w W' :=
  ⟨cell_on h.1 hb, cell_on h.2.1 hb, cell_on h.2.2.1 hb, bel_on (Nat.le_refl _) h.2.2.2 hb⟩
theorem cell_set {W : World} {b o k i : Nat} {v x : Value} (h : W.cell? ⟨b, o, none⟩ = some v) (hne : b ≠ k) : (W.setCell ⟨k, i, none⟩ x).cell? ⟨b, o, none⟩ = some v := by
  rw [World.cell?_of_block (w := W) (Below.heap_setCell _ _ _ _ hne)]; exact h
theorem s3_set {w W : World} {x y z u : Value} {k i : Nat} (hk : w.heap.size + 3 ≤ k) (h : W.cell? ⟨w.heap.size, 0, none⟩ = some x ∧ W.cell? ⟨w.heap.size, 1, none⟩ = some y ∧ W.cell? ⟨w.heap.size + 1, 0, none⟩ = some z ∧ Below w.heap.size w W) :
    (W.setCell ⟨k, i, none⟩ u).cell? ⟨w.heap.size, 0, none⟩ = some x ∧ (W.setCell ⟨k, i, none⟩ u).cell? ⟨w.heap.size, 1, none⟩ = some y ∧ (W.setCell ⟨k, i, none⟩ u).cell? ⟨w.heap.size + 1, 0, none⟩ = some z ∧ Below w.heap.size w (W.setCell ⟨k, i, none⟩ u) :=
  ⟨cell_set h.1 (by omega), cell_set h.2.1 (by omega), cell_set h.2.2.1 (by omega), h.2.2.2.setCell (by simp; omega) _⟩
theorem s3_bel {w W : World} {x y z : Value} (h : W.cell? ⟨w.heap.size, 0, none⟩ = some x ∧ W.cell? ⟨w.heap.size, 1, none⟩ = some y ∧ W.cell? ⟨w.heap.size + 1, 0, none⟩ = some z ∧ Below w.heap.size w W) : Below w.heap.size w W := h.2.2.2

theorem copyC' (a : Option Addr) (pc : Int) (l : List Int) (n cap : Nat) (hl : l.length = n) (hn : n ≤ 1048576) (w : World) (hr : Rd w a l) :
    Calls Try.prog 70 #[.agg #[.int .i64 pc, .slice a n cap]] w fun e w' => ∃ g, e = .returned (.agg #[.int .i64 pc, .slice (some ⟨g, 0, none⟩) n n]) ∧ w.heap.size ≤ g ∧ OwnN w' w.heap.size g n n l ∧ Below w.heap.size w w' := by
  refine (copyCI a pc l n cap hl hn w hr).mono ?_
  rintro e w1 ⟨rfl, h1, h2⟩
  exact ⟨_, rfl, by omega, h1.ownN (by omega) hl hn, h2⟩
theorem copyA' (a : Option Addr) (l : List Int) (n cap : Nat) (hl : l.length = n) (hn : n ≤ 1048576) (w : World) (hr : Rd w a l) :
    Calls Try.prog 71 #[.agg #[.slice a n cap]] w fun e w' => ∃ g, e = .returned (.agg #[.slice (some ⟨g, 0, none⟩) n n]) ∧ w.heap.size ≤ g ∧ OwnN w' w.heap.size g n n l ∧ Below w.heap.size w w' := by
  refine (copyA a l n cap hl hn w hr).mono ?_
  rintro e w1 ⟨rfl, h1, h2⟩
  exact ⟨_, rfl, by omega, h1.ownN (by omega) hl hn, h2⟩

theorem OwnN.set7 {W : World} {B g n c k3 k4 k5 : Nat} {l : List Int} {x1 x2 x3 x4 x5 x6 x7 : Value} (h : OwnN W B g n c l) (h3 : g ≠ k3) (h4 : g ≠ k4) (h5 : g ≠ k5) :
    OwnN (((((((W.setCell ⟨k3, 0, none⟩ x1).setCell ⟨k3, 1, none⟩ x2).setCell ⟨k4, 0, none⟩ x3).setCell ⟨k5, 0, none⟩ x4).setCell ⟨k5, 1, none⟩ x5).setCell ⟨k5, 2, none⟩ x6).setCell ⟨k5, 3, none⟩ x7) B g n c l :=
  ((((((h.set h3).set h3).set h4).set h5).set h5).set h5).set h5
theorem below_set7 {w W : World} {k3 k4 k5 : Nat} {x1 x2 x3 x4 x5 x6 x7 : Value} (h : Below w.heap.size w W) (h3 : w.heap.size ≤ k3) (h4 : w.heap.size ≤ k4) (h5 : w.heap.size ≤ k5) :
    Below w.heap.size w (((((((W.setCell ⟨k3, 0, none⟩ x1).setCell ⟨k3, 1, none⟩ x2).setCell ⟨k4, 0, none⟩ x3).setCell ⟨k5, 0, none⟩ x4).setCell ⟨k5, 1, none⟩ x5).setCell ⟨k5, 2, none⟩ x6).setCell ⟨k5, 3, none⟩ x7) :=
  ((((((h.setCell h3 _).setCell h3 _).setCell h4 _).setCell h5 _).setCell h5 _).setCell h5 _).setCell h5 _
/-- what a step hands back -/
def StepPost (w : World) (m : Nat) (R : Res) (N : Nat) (e : Ending) (w' : World) : Prop :=
  ∃ g2 c2 ga2 ca2, e = .returned (.tuple #[.agg #[.int .i64 R.pc, .slice (some ⟨g2, 0, none⟩) N c2], .agg #[.slice (some ⟨ga2, 0, none⟩) m ca2], .agg #[.int .i64 R.k, .int .i64 R.po, .int .i64 R.nu, .int .i64 R.tr]]) ∧ OwnN w' w.heap.size g2 N c2 R.st ∧ OwnN w' w.heap.size ga2 m ca2 R.ce ∧ g2 ≠ ga2 ∧ Below w.heap.size w w'
theorem six_is (w : World) (pc : Int) (sv av : Value) (f s : Int) : Six w ((((((w.alloc (.cells #[.int .i64 pc, sv] 55)).alloc (.cells #[av] 34)).alloc (.cells #[.int .i64 f, .int .i64 s] 36)).alloc (.cells #[.int .i64 0, .slice none 0 0] 55)).alloc (.cells #[.slice none 0 0] 34)).alloc (.cells #[.int .i64 0, .int .i64 0, .int .i64 0, .int .i64 0] 58)) pc sv av f s := six_start w pc sv av f s

set_option maxRecDepth 100000 in
set_option maxHeartbeats 4000000 in
theorem stepN (qs : Option Addr) (pc : Int) (st : List Int) (n cp : Nat) (qc : Option Addr) (rl : List (Int × Int)) (nc cc : Nat) (qa : Option Addr) (ce : List Int) (m ca : Nat) (f s t : Int) (hl : st.length = n) (hn : n ≤ 1048576) (hlc : rl.length = nc) (hnc : nc ≤ 1048576) (hla : ce.length = m) (hm : m ≤ 1048576) (hno : ¬ (CpuR pc st ∧ I.CodeR rl ∧ pc < (nc : Int))) (w : World) (hr : Rd w qs st) (hrc : I.RdR w qc rl) (hra : Rd w qa ce) :
    Calls Try.prog 60 #[.agg #[.int .i64 pc, .slice qs n cp], .slice qc nc cc, .agg #[.slice qa m ca], .agg #[.int .i64 f, .int .i64 s], .int .i64 t] w (StepPost w m (trapR pc st ce 6) n) := by
  have HX : Hid (Six w _ pc (.slice qs n cp) (.slice qa m ca) f s) := six_is w pc (.slice qs n cp) (.slice qa m ca) f s
  have HR : Hid (Rd w qs st) := hr
  have HRC : Hid (I.RdR w qc rl) := hrc
  have HRA : Hid (Rd w qa ce) := hra
  have HL : Hid (st.length = n) := hl
  have HLC : Hid (rl.length = nc) := hlc
  have HLA : Hid (ce.length = m) := hla
  have HNO : Hid (¬ (CpuR pc st ∧ I.CodeR rl ∧ pc < (nc : Int))) := hno
  clear hr hrc hra hl hlc hla hno
  go_enter Try.func60, Try.ntmps60
  go_wp2_with fail
  refine (instrAtN qs pc st n cp qc rl nc cc HL.out (by omega) HLC.out (by omega) HNO.out _ (HR.out.keep HX.out.bel (Nat.le_refl _)) (HRC.out.keep HX.out.bel (Nat.le_refl _))).mono ?_
  rintro e w1 ⟨rfl, hb1⟩
  have HX1 : Hid (Six w (w1.alloc (.cells #[.int .i64 0, .int .i64 0] 51)) pc (.slice qs n cp) (.slice qa m ca) f s) := (HX.out.on hb1).on ((Below.refl _ _).alloc (Nat.le_refl _) _)
  clear hb1 HX
  have hlt := HX1.out.lt
  go_wp2_with fail
  generalize hW : w1.alloc (.cells #[.int .i64 0, .int .i64 0] 51) = W1 at *
  clear hW
  have HQ : Hid (W1.drew.cell? ⟨w.heap.size, 0, none⟩ = some (.int .i64 pc) ∧ W1.drew.cell? ⟨w.heap.size, 1, none⟩ = some (.slice qs n cp) ∧ W1.drew.cell? ⟨w.heap.size + 1, 0, none⟩ = some (.slice qa m ca) ∧ Below w.heap.size w W1.drew) := ⟨(row2_cells HX1.out.1).1, (row2_cells HX1.out.1).2.1, (row1_cells HX1.out.2.1).1, HX1.out.bel.drew⟩
  go_region_held3 (fun w' => w'.cell? ⟨w.heap.size, 0, none⟩ = some (.int .i64 pc) ∧ w'.cell? ⟨w.heap.size, 1, none⟩ = some (.slice qs n cp) ∧ w'.cell? ⟨w.heap.size + 1, 0, none⟩ = some (.slice qa m ca) ∧ Below w.heap.size w w') (first | (with_reducible exact HQ.out) | (with_reducible exact HQz.out) | (with_reducible exact s3_set (by omega) (s3_set (by omega) (by assumption))) | (with_reducible exact s3_set (by omega) (by assumption)) | (with_reducible exact s3_set (by omega) (s3_set (by omega) (s3_set (by omega) (s3_set (by omega) (by assumption))))) | (with_reducible exact s3_on (by assumption) (by assumption))) (first | (go_at_call 70; refine (copyC' qs pc st n cp HL.out hn _ ?_).mono ?_; (exact HR.out.keep (s3_bel (by assumption)) (Nat.le_refl _)); rintro e wA ⟨gA, rfl, hgA, hownA, hbA⟩; have HXA : Hid (Six w wA pc (.slice qs n cp) (.slice qa m ca) f s) := HX1.out.on (undrew hbA)) | (go_at_call 71; refine (copyA' qa ce m ca HLA.out hm _ ?_).mono ?_; (exact HRA.out.keep (s3_bel (by assumption)) (Nat.le_refl _)); rintro e wB ⟨gB, rfl, hgB, hownB, hbB⟩; have HXB : Hid (Six w wB pc (.slice qs n cp) (.slice qa m ca) f s) := HXA.out.on hbB; have kr := HXB.out.outs; have HOA := hownA.on hbB; have HQz : Hid (_ ∧ _ ∧ _ ∧ _) := s3_on hbB (by assumption)))
  have HN : Hid (W1.heap.size ≤ gA ∧ gA < wA.heap.size ∧ wA.heap.size ≤ gB ∧ w.heap.size + 6 ≤ W1.heap.size) := ⟨hgA, hownA.lt, hgB, HX1.out.lt⟩
  have HO1 : Hid (OwnN wB w.heap.size gA n n st) := HOA.mono (by have := HX1.out.lt; show w.heap.size ≤ W1.heap.size; omega)
  have HO2 : Hid (OwnN wB w.heap.size gB m m ce) := hownB.mono (by have := HN.out; omega)
  have HBW : Hid (Below w.heap.size w wB) := HXB.out.bel
  rename_i HH
  clear HH hownA hownB HOA hgA hgB hbA hbB HQz HQ HX1
  go_wp2
  refine bodyPost_ret (v := .tuple #[.agg #[.int .i64 pc, .slice (some ⟨gA, 0, none⟩) n n], .agg #[.slice (some ⟨gB, 0, none⟩) m m], .agg #[.int .i64 0, .int .i64 0, .int .i64 0, .int .i64 6]]) (by simp [results, Try.results60, go_sem, kr]) rfl ?_
  refine ⟨gA, n, gB, m, rfl, ?_, ?_, ?_, ?_⟩
  · exact HO1.out.set7 (by have := HN.out; omega) (by have := HN.out; omega) (by have := HN.out; omega)
  · exact HO2.out.set7 (by have := HN.out; omega) (by have := HN.out; omega) (by have := HN.out; omega)
  · have := HN.out; omega
  · exact below_set7 HBW.out (by omega) (by omega) (by omega)
end Go.Proofs.Ythnocibkgpofnaa
