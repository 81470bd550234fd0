/-
  The specification: a cell stored.
-/
import Derived.Test.YthnocibkgpofnaaSpecT
namespace Go.Proofs.Ythnocibkgpofnaa
open Go.RowKit Go.PlainAid
set_option linter.unusedVariables false
set_option maxRecDepth 100000 in
set_option maxHeartbeats 4000000 in
theorem swStore (w : World) (pc : Int) (gq oq : Nat) (st : List Int) (n cp : Nat) (ad : Addr) (ce : List Int) (m ca : Nat) (f s t arg : Int) (T r : Nat) (U V : Int) (hrb : r ≤ 1048576) (hnr : IntKind.i64.wrap ((n : Int) - T) = (r : Int)) (hru : IntKind.i64.wrap ((r : Int) + U) = V) (x y : Int) (r1 : Nat) (hky : w.cell? ⟨gq, oq + r, none⟩ = some (.int .i64 y)) (hkx : w.cell? ⟨gq, oq + r1, none⟩ = some (.int .i64 x)) (hri : r < n) (hri2 : (r : Int) < (n : Int)) (hri3 : r1 < n) (hri4 : (r1 : Int) < (n : Int)) (hn1 : IntKind.i64.wrap ((n : Int) - 1) = (r1 : Int)) (hn2 : IntKind.i64.wrap ((n : Int) - 2) = (r : Int)) (X : Int) (E : List Int) (hX : IntKind.i64.wrap (y + arg) = X) (hE : stL ce f s X x = E) (hEB : ldB m f s X = true) (hla : ce.length = m) (hm : m ≤ 1048576) (hra : Rd w (some ad) ce) (hov : ¬ (8 < V)) (h61 : ¬ (60 < pc + 1)) (hm0 : 0 < m) : SwOk w pc (some ⟨gq, oq, none⟩) st n cp ad ce m ca f s t 3 arg T r U (StepPost w m (okR (pc + 1) (st.take r) E) (r)) := by
  have HKX : Hid (_ = _) := hkx
  clear hkx
  have HKY : Hid (_ = _) := hky
  clear hky
  have HE : Hid (stL ce f s X x = E) := hE
  have HEB : Hid (ldB m f s X = true) := hEB
  have HLA : Hid (ce.length = m) := hla
  have HRA : Hid (Rd w (some ad) ce) := hra
  clear hE hEB hla hra
  have HM0 : Hid (0 < m) := hm0
  clear hm0
  intro k13 k14 kd kA kE g1 c1 g3 c3 g4 c4 W8 s0 s1 s2 s3 s6 s9 u21 u22 u23 u24 u25 u26 u27 u28 u29 u30 u31 u32 u33 u34 u35 u36 u37 u38 u39 u40 u41 u42 u43 u44 u45 u46 u47 u48 u49 u50 u51 u52 u53 u54 u55 u56 u57 u58 u59 u60 u61 u62 u63 u64 u65 u66 u67 u68 u69 u70 u71 u72 u73 u74 u75 u76 u77 u78 u79 u80 u81 u82 u83 u84 u85 u86 u87 u88 u89 u90 u91 u92 u93 u94 u95 u96 u97 u98 u99 u100 u101 u102 u103 u104 u105 u106 u107 u108 u109 u110 u111 u112 u113 u114 u115 u116 u117 u118 u119 u120 u121 u122 u123 u124 u125 u126 u127 u128 u129 u130 u131 u132 u133 u134 u135 u136 u137 u138 u139 u140 u141 u142 u143 u144 u145 u146 u147 u148 u149 u150 u151 u152 u153 u154 u155 u156 u157 u158 u159 u160 u161 u162 u163 u164 u165 u166 u167 u168 u169 u170 u171 u172 u173 u174 u175 u176 u177 u178 u179 u180 u181 u182 u183 u184 u185 u186 u187 u188 u189 u190 u191 u192 u193 u194 u195 u196 u197 u198 u199 u200 u201 u202 u203 u204 u205 u206 u207 u208 u209 u210 u211 u212 u213 u214 u215 u216 u217 u218 u219 u220 u221 u222 u223 u224 u225 u226 u227 u228 u229 u230 u231 u232 u233 u234 u235 u236 u237 u238 u239 u240 u241 u242 u243 u244 u245 u246 u247 u248 u249 u250 u251 u252 u253 u254 u255 u256 u257 u258 u259 u260 u261 u262 u263 u264 u265 u266 u267 u268 u269 u270 u271 u272 u273 u274 u275 u276 u277 u278 u279 u280 u281 u282 u283 u284 hB hD
  have HB : Hid (Bk w W8 pc (.slice (some ⟨gq, oq, none⟩) n cp) (.slice (some ad) m ca) f s k13 g1 n c1 st k14 3 arg kA g4 m c4 ce kE 0 0 0) := hB
  have HD : Hid (Dk w W8 kd (pc + 1) g3 r c3 (st.take r) k13 g1 g4) := hD
  clear hB hD
  unfold WpSw
  change Code.wp Try.prog (Code.seq (Code.seq (Code.region 14 _ _) (Code.block 0 _)) _) _ _ _
  have ki := row2_cells HB.out.ins
  go_upto_block 0 with fail
  go_cut [] (fun wc => ∃ (g6 c6 : Nat), Hid (Bk w wc pc (.slice (some ⟨gq, oq, none⟩) n cp) (.slice (some ad) m ca) f s k13 g1 n c1 st k14 3 arg kA g6 m c6 E kE 0 0 0) ∧ Hid (Dk w wc kd (pc + 1) g3 r c3 (st.take r) k13 g1 g6))
  case first =>
    go_wp2_with fail
    clear ki
    have QA : Hid (W8.cell? ⟨w.heap.size + 1, 0, none⟩ = some (.slice (some ad) m ca)) := (row1_cells HB.out.six.2.1).1
    have QF : Hid (W8.cell? ⟨w.heap.size + 1 + 1, 0, none⟩ = some (.int .i64 f)) := (row2_cells HB.out.six.2.2.1).1
    have QG : Hid (W8.cell? ⟨w.heap.size + 1 + 1, 1, none⟩ = some (.int .i64 s)) := (row2_cells HB.out.six.2.2.1).2.1
    have QT : Hid (W8.cell? ⟨w.heap.size, 1, none⟩ = some (.slice (some ⟨gq, oq, none⟩) n cp)) := (row2_cells HB.out.six.1).2.1
    have QY : Hid (W8.cell? ⟨gq, oq + r, none⟩ = some (.int .i64 y)) := bel_cell HKY.out HB.out.six.bel (Nat.le_refl _)
    have QX : Hid (W8.cell? ⟨gq, oq + r1, none⟩ = some (.int .i64 x)) := bel_cell HKX.out HB.out.six.bel (Nat.le_refl _)
    have QR : Hid (W8.cell? ⟨k14, 1, none⟩ = some (.int .i64 arg)) := (row2_cells HB.out.ins).2.1
    have HRA8 : Hid (Rd W8 (some ad) ce) := HRA.out.keep HB.out.six.bel (Nat.le_refl _)
    go_cut [23, 24] (fun o1 o2 wc => ∃ (kz g6 c6 : Nat), o1 = .pointer (some ⟨kz, 0, none⟩) ∧ o2 = .bool true ∧ Hid (wc.heap[kz]? = some (.cells #[.slice (some ⟨g6, 0, none⟩) m c6] 34) ∧ OwnN wc W8.heap.size g6 m c6 E ∧ Below W8.heap.size W8 wc))
    case first =>
      refine wp_region_held_drew (S := fun w' => Below W8.heap.size W8 w') (by kernel_rfl) (Below.refl _ _).drew (fun hHeld => ?_)
      refine wpAnyH_take (i := 0) (v := ?_) rfl (by kernel_rfl) (by kernel_rfl) (by kernel_rfl) (fun _ _ _ h => h) (Or.inl ⟨by rfl, ?_⟩) (by assumption) ?_
      rotate_left
      · intro w_ hSw; (try dsimp only at hSw); have q0_ := cell_on QA.out hSw; have q1_ := cell_on QF.out hSw; have q2_ := cell_on QG.out hSw; have q3_ := cell_on QT.out hSw; have q4_ := cell_on QY.out hSw; have q5_ := cell_on QX.out hSw; have q6_ := cell_on QR.out hSw; go_simp <;> with_reducible rfl
      simp only [Act.put, List.setIfInBounds_toArray, List.set_cons_zero, List.set_cons_succ, List.getElem_toArray, List.getElem_cons_zero]
      refine wpAnyH_take (i := 1) (v := ?_) rfl (by kernel_rfl) (by kernel_rfl) (by kernel_rfl) (fun _ _ _ h => h) (Or.inl ⟨by rfl, ?_⟩) (by assumption) ?_
      rotate_left
      · intro w_ hSw; (try dsimp only at hSw); have q0_ := cell_on QA.out hSw; have q1_ := cell_on QF.out hSw; have q2_ := cell_on QG.out hSw; have q3_ := cell_on QT.out hSw; have q4_ := cell_on QY.out hSw; have q5_ := cell_on QX.out hSw; have q6_ := cell_on QR.out hSw; go_simp <;> with_reducible rfl
      simp only [Act.put, List.setIfInBounds_toArray, List.set_cons_zero, List.set_cons_succ, List.getElem_toArray, List.getElem_cons_zero, List.getElem_cons_succ]
      refine wpAnyH_take (i := 2) (v := ?_) rfl (by kernel_rfl) (by kernel_rfl) (by kernel_rfl) (fun _ _ _ h => h) (Or.inl ⟨by rfl, ?_⟩) (by assumption) ?_
      rotate_left
      · intro w_ hSw; (try dsimp only at hSw); have q0_ := cell_on QA.out hSw; have q1_ := cell_on QF.out hSw; have q2_ := cell_on QG.out hSw; have q3_ := cell_on QT.out hSw; have q4_ := cell_on QY.out hSw; have q5_ := cell_on QX.out hSw; have q6_ := cell_on QR.out hSw; go_simp <;> with_reducible rfl
      simp only [Act.put, List.setIfInBounds_toArray, List.set_cons_zero, List.set_cons_succ, List.getElem_toArray, List.getElem_cons_zero, List.getElem_cons_succ]
      refine wpAnyH_take (i := 3) (v := ?_) rfl (by kernel_rfl) (by kernel_rfl) (by kernel_rfl) (fun _ _ _ h => h) (Or.inl ⟨by rfl, ?_⟩) (by assumption) ?_
      rotate_left
      · intro w_ hSw; (try dsimp only at hSw); have q0_ := cell_on QA.out hSw; have q1_ := cell_on QF.out hSw; have q2_ := cell_on QG.out hSw; have q3_ := cell_on QT.out hSw; have q4_ := cell_on QY.out hSw; have q5_ := cell_on QX.out hSw; have q6_ := cell_on QR.out hSw; go_simp <;> with_reducible rfl
      simp only [Act.put, List.setIfInBounds_toArray, List.set_cons_zero, List.set_cons_succ, List.getElem_toArray, List.getElem_cons_zero, List.getElem_cons_succ]
      refine wpAnyH_take (i := 4) (v := ?_) rfl (by kernel_rfl) (by kernel_rfl) (by kernel_rfl) (fun _ _ _ h => h) (Or.inl ⟨by rfl, ?_⟩) (by assumption) ?_
      rotate_left
      · intro w_ hSw; (try dsimp only at hSw); have q0_ := cell_on QA.out hSw; have q1_ := cell_on QF.out hSw; have q2_ := cell_on QG.out hSw; have q3_ := cell_on QT.out hSw; have q4_ := cell_on QY.out hSw; have q5_ := cell_on QX.out hSw; have q6_ := cell_on QR.out hSw; go_simp <;> with_reducible rfl
      simp only [Act.put, List.setIfInBounds_toArray, List.set_cons_zero, List.set_cons_succ, List.getElem_toArray, List.getElem_cons_zero, List.getElem_cons_succ]
      refine wpAnyH_take (i := 5) (v := .int .i64 (r : Int)) rfl (by kernel_rfl) (by kernel_rfl) (by kernel_rfl) (fun _ _ _ h => h) (Or.inl ⟨by rfl, ?_⟩) (by assumption) ?_
      · intro w_ hSw; (try dsimp only at hSw); have q0_ := cell_on QA.out hSw; have q1_ := cell_on QF.out hSw; have q2_ := cell_on QG.out hSw; have q3_ := cell_on QT.out hSw; have q4_ := cell_on QY.out hSw; have q5_ := cell_on QX.out hSw; have q6_ := cell_on QR.out hSw; go_simp
      simp only [Act.put, List.setIfInBounds_toArray, List.set_cons_zero, List.set_cons_succ, List.getElem_toArray, List.getElem_cons_zero, List.getElem_cons_succ]
      refine wpAnyH_take (i := 6) (v := .pointer (some ⟨gq, oq + r, none⟩)) rfl (by kernel_rfl) (by kernel_rfl) (by kernel_rfl) (fun _ _ _ h => h) (Or.inl ⟨by rfl, ?_⟩) (by assumption) ?_
      · intro w_ hSw; (try dsimp only at hSw); have q0_ := cell_on QA.out hSw; have q1_ := cell_on QF.out hSw; have q2_ := cell_on QG.out hSw; have q3_ := cell_on QT.out hSw; have q4_ := cell_on QY.out hSw; have q5_ := cell_on QX.out hSw; have q6_ := cell_on QR.out hSw; go_simp
      simp only [Act.put, List.setIfInBounds_toArray, List.set_cons_zero, List.set_cons_succ, List.getElem_toArray, List.getElem_cons_zero, List.getElem_cons_succ]
      refine wpAnyH_take (i := 7) (v := .int .i64 y) rfl (by kernel_rfl) (by kernel_rfl) (by kernel_rfl) (fun _ _ _ h => h) (Or.inl ⟨by rfl, ?_⟩) (by assumption) ?_
      · intro w_ hSw; (try dsimp only at hSw); have q0_ := cell_on QA.out hSw; have q1_ := cell_on QF.out hSw; have q2_ := cell_on QG.out hSw; have q3_ := cell_on QT.out hSw; have q4_ := cell_on QY.out hSw; have q5_ := cell_on QX.out hSw; have q6_ := cell_on QR.out hSw; go_simp
      simp only [Act.put, List.setIfInBounds_toArray, List.set_cons_zero, List.set_cons_succ, List.getElem_toArray, List.getElem_cons_zero, List.getElem_cons_succ]
      refine wpAnyH_take (i := 8) (v := ?_) rfl (by kernel_rfl) (by kernel_rfl) (by kernel_rfl) (fun _ _ _ h => h) (Or.inl ⟨by rfl, ?_⟩) (by assumption) ?_
      rotate_left
      · intro w_ hSw; (try dsimp only at hSw); have q0_ := cell_on QA.out hSw; have q1_ := cell_on QF.out hSw; have q2_ := cell_on QG.out hSw; have q3_ := cell_on QT.out hSw; have q4_ := cell_on QY.out hSw; have q5_ := cell_on QX.out hSw; have q6_ := cell_on QR.out hSw; go_simp <;> with_reducible rfl
      simp only [Act.put, List.setIfInBounds_toArray, List.set_cons_zero, List.set_cons_succ, List.getElem_toArray, List.getElem_cons_zero, List.getElem_cons_succ]
      refine wpAnyH_take (i := 9) (v := ?_) rfl (by kernel_rfl) (by kernel_rfl) (by kernel_rfl) (fun _ _ _ h => h) (Or.inl ⟨by rfl, ?_⟩) (by assumption) ?_
      rotate_left
      · intro w_ hSw; (try dsimp only at hSw); have q0_ := cell_on QA.out hSw; have q1_ := cell_on QF.out hSw; have q2_ := cell_on QG.out hSw; have q3_ := cell_on QT.out hSw; have q4_ := cell_on QY.out hSw; have q5_ := cell_on QX.out hSw; have q6_ := cell_on QR.out hSw; go_simp <;> with_reducible rfl
      simp only [Act.put, List.setIfInBounds_toArray, List.set_cons_zero, List.set_cons_succ, List.getElem_toArray, List.getElem_cons_zero, List.getElem_cons_succ]
      refine wpAnyH_take (i := 10) (v := .int .i64 X) rfl (by kernel_rfl) (by kernel_rfl) (by kernel_rfl) (fun _ _ _ h => h) (Or.inl ⟨by rfl, ?_⟩) (by assumption) ?_
      · intro w_ hSw; (try dsimp only at hSw); have q0_ := cell_on QA.out hSw; have q1_ := cell_on QF.out hSw; have q2_ := cell_on QG.out hSw; have q3_ := cell_on QT.out hSw; have q4_ := cell_on QY.out hSw; have q5_ := cell_on QX.out hSw; have q6_ := cell_on QR.out hSw; go_simp
      simp only [Act.put, List.setIfInBounds_toArray, List.set_cons_zero, List.set_cons_succ, List.getElem_toArray, List.getElem_cons_zero, List.getElem_cons_succ]
      refine wpAnyH_take (i := 11) (v := ?_) rfl (by kernel_rfl) (by kernel_rfl) (by kernel_rfl) (fun _ _ _ h => h) (Or.inl ⟨by rfl, ?_⟩) (by assumption) ?_
      rotate_left
      · intro w_ hSw; (try dsimp only at hSw); have q0_ := cell_on QA.out hSw; have q1_ := cell_on QF.out hSw; have q2_ := cell_on QG.out hSw; have q3_ := cell_on QT.out hSw; have q4_ := cell_on QY.out hSw; have q5_ := cell_on QX.out hSw; have q6_ := cell_on QR.out hSw; go_simp <;> with_reducible rfl
      simp only [Act.put, List.setIfInBounds_toArray, List.set_cons_zero, List.set_cons_succ, List.getElem_toArray, List.getElem_cons_zero, List.getElem_cons_succ]
      refine wpAnyH_take (i := 12) (v := ?_) rfl (by kernel_rfl) (by kernel_rfl) (by kernel_rfl) (fun _ _ _ h => h) (Or.inl ⟨by rfl, ?_⟩) (by assumption) ?_
      rotate_left
      · intro w_ hSw; (try dsimp only at hSw); have q0_ := cell_on QA.out hSw; have q1_ := cell_on QF.out hSw; have q2_ := cell_on QG.out hSw; have q3_ := cell_on QT.out hSw; have q4_ := cell_on QY.out hSw; have q5_ := cell_on QX.out hSw; have q6_ := cell_on QR.out hSw; go_simp <;> with_reducible rfl
      simp only [Act.put, List.setIfInBounds_toArray, List.set_cons_zero, List.set_cons_succ, List.getElem_toArray, List.getElem_cons_zero, List.getElem_cons_succ]
      refine wpAnyH_take (i := 13) (v := ?_) rfl (by kernel_rfl) (by kernel_rfl) (by kernel_rfl) (fun _ _ _ h => h) (Or.inl ⟨by rfl, ?_⟩) (by assumption) ?_
      rotate_left
      · intro w_ hSw; (try dsimp only at hSw); have q0_ := cell_on QA.out hSw; have q1_ := cell_on QF.out hSw; have q2_ := cell_on QG.out hSw; have q3_ := cell_on QT.out hSw; have q4_ := cell_on QY.out hSw; have q5_ := cell_on QX.out hSw; have q6_ := cell_on QR.out hSw; go_simp <;> with_reducible rfl
      simp only [Act.put, List.setIfInBounds_toArray, List.set_cons_zero, List.set_cons_succ, List.getElem_toArray, List.getElem_cons_zero, List.getElem_cons_succ]
      refine wpAnyH_take (i := 14) (v := .int .i64 (r1 : Int)) rfl (by kernel_rfl) (by kernel_rfl) (by kernel_rfl) (fun _ _ _ h => h) (Or.inl ⟨by rfl, ?_⟩) (by assumption) ?_
      · intro w_ hSw; (try dsimp only at hSw); have q0_ := cell_on QA.out hSw; have q1_ := cell_on QF.out hSw; have q2_ := cell_on QG.out hSw; have q3_ := cell_on QT.out hSw; have q4_ := cell_on QY.out hSw; have q5_ := cell_on QX.out hSw; have q6_ := cell_on QR.out hSw; go_simp
      simp only [Act.put, List.setIfInBounds_toArray, List.set_cons_zero, List.set_cons_succ, List.getElem_toArray, List.getElem_cons_zero, List.getElem_cons_succ]
      refine wpAnyH_take (i := 15) (v := .pointer (some ⟨gq, oq + r1, none⟩)) rfl (by kernel_rfl) (by kernel_rfl) (by kernel_rfl) (fun _ _ _ h => h) (Or.inl ⟨by rfl, ?_⟩) (by assumption) ?_
      · intro w_ hSw; (try dsimp only at hSw); have q0_ := cell_on QA.out hSw; have q1_ := cell_on QF.out hSw; have q2_ := cell_on QG.out hSw; have q3_ := cell_on QT.out hSw; have q4_ := cell_on QY.out hSw; have q5_ := cell_on QX.out hSw; have q6_ := cell_on QR.out hSw; go_simp
      simp only [Act.put, List.setIfInBounds_toArray, List.set_cons_zero, List.set_cons_succ, List.getElem_toArray, List.getElem_cons_zero, List.getElem_cons_succ]
      refine wpAnyH_take (i := 16) (v := .int .i64 x) rfl (by kernel_rfl) (by kernel_rfl) (by kernel_rfl) (fun _ _ _ h => h) (Or.inl ⟨by rfl, ?_⟩) (by assumption) ?_
      · intro w_ hSw; (try dsimp only at hSw); have q0_ := cell_on QA.out hSw; have q1_ := cell_on QF.out hSw; have q2_ := cell_on QG.out hSw; have q3_ := cell_on QT.out hSw; have q4_ := cell_on QY.out hSw; have q5_ := cell_on QX.out hSw; have q6_ := cell_on QR.out hSw; go_simp
      simp only [Act.put, List.setIfInBounds_toArray, List.set_cons_zero, List.set_cons_succ, List.getElem_toArray, List.getElem_cons_zero, List.getElem_cons_succ]
      refine wpAnyH_named (fun a0 ha0 => ?_)
      have HA0 : Hid (a0 = _) := ha0
      clear ha0
      refine main_go1 (L := (fun xb => #[true, true, true, true, true, true, true, true, true, true, true, true, true, true, true, true, true, false, false, false, false, xb, false, false])) (St := (fun xb a w => ∃ (vx : Value), a = (a0.put (some 23) vx) ∧ VB W8 xb vx w zAr)) (K := 6) ?h (by kernel_rfl) (by decide) (by assumption) ⟨a0.tmps.getD 23 undef, (by simp only [put_self]), VB.no _ _ _ _⟩
      case h =>
        refine stage1 (i1 := 21) (c := 17) (fun xb => #[true, true, true, true, true, true, true, true, true, true, true, true, true, true, true, true, true, false, false, false, false, xb, false, false]) (fun xb => #[true, true, true, true, true, true, true, true, true, true, true, true, true, true, true, true, true, true, false, false, false, xb, false, false]) (fun xb a w => ∃ (vx : Value), a = (a0.put (some 23) vx) ∧ VB W8 xb vx w zAr) (fun xb a w => ∃ (vx : Value) (g6 : Nat) (c6 : Nat), a = ((a0.put (some 155) (.tuple #[.agg #[.slice (some ⟨g6, 0, none⟩) m c6], .bool true])).put (some 23) vx) ∧ Hid (OwnN w W8.heap.size g6 m c6 E) ∧ VB W8 xb vx w zAr) 5 ?_ ?_ ?_ ?_ ?_ ?_ ?_
        · intro xb i hi
          cases xb
          · have e_ := mem_kernel (rs := [17, 21]) (by kernel_rfl) hi; (first | (simp at e_ ⊢; done) | (simp at e_ ⊢; omega))
          · have e_ := mem_kernel (rs := [17]) (by kernel_rfl) hi; (first | (simp at e_ ⊢; done) | (simp at e_ ⊢; omega))
        · intro xb; cases xb
          · exact ne_kernel (rs := [17, 21]) (by kernel_rfl) (by simp)
          · exact ne_kernel (rs := [17]) (by kernel_rfl) (by simp)
        · kernel_rfl
        · intro xb; cases xb <;> kernel_rfl
        · rintro a w hSw ⟨vx, rfl, bx⟩
          refine wpOp_step (i := 21) rfl (fun K hK => ?_)
          have HK : Shut _ := hK
          clear hK
          rw [HA0.out]
          simp only [Act.put, List.setIfInBounds_toArray, List.set_cons_zero, List.set_cons_succ]
          go_simp
          exact HK.out _ _ ⟨bel_on (Nat.le_refl _) hSw (al1_b w zAr), _, (by rw [HA0.out]; simp only [Act.put, List.setIfInBounds_toArray, List.set_cons_zero, List.set_cons_succ] <;> (first | with_reducible rfl | rfl)), VB.new hSw⟩
        · rintro xb a w hSw ⟨vx, rfl, bx⟩
          refine wpOp_step (i := 17) rfl (fun K hK => ?_)
          have HK : Shut _ := hK
          clear hK
          rw [HA0.out]
          simp only [Act.put, List.setIfInBounds_toArray, List.set_cons_zero, List.set_cons_succ]
          go_simp
          go_at_call 58
          refine (storeS' ad ce m ca f s X x E true HLA.out hm HE.out HEB.out _ (HRA8.out.on hSw)).mono ?_
          rintro e wL ⟨v, rfl, hownL, hbL⟩
          obtain ⟨q6_, c6, hv⟩ := own_shape hownL
          subst hv
          obtain ⟨g6, rfl, hg6⟩ := own_addr hownL (by have := HM0.out; omega)
          (try go_wp2_with fail)
          exact HK.out _ _ ⟨bel_on (Nat.le_refl _) hSw (hbL), vx, g6, c6, (by rw [HA0.out]; simp only [Act.put, List.setIfInBounds_toArray, List.set_cons_zero, List.set_cons_succ] <;> (first | with_reducible rfl | rfl)), hid (OwnN.mono hownL hSw.size), bx.on (hbL)⟩
        refine stage1T (i := 18) rfl (by kernel_rfl) (fun xb => #[true, true, true, true, true, true, true, true, true, true, true, true, true, true, true, true, true, true, false, false, false, xb, false, false]) (fun xb => #[true, true, true, true, true, true, true, true, true, true, true, true, true, true, true, true, true, true, true, false, false, xb, false, false]) (fun xb a w => ∃ (vx : Value) (g6 : Nat) (c6 : Nat), a = ((a0.put (some 155) (.tuple #[.agg #[.slice (some ⟨g6, 0, none⟩) m c6], .bool true])).put (some 23) vx) ∧ Hid (OwnN w W8.heap.size g6 m c6 E) ∧ VB W8 xb vx w zAr) (fun xb a w => ∃ (vx : Value) (g6 : Nat) (c6 : Nat), a = (((a0.put (some 155) (.tuple #[.agg #[.slice (some ⟨g6, 0, none⟩) m c6], .bool true])).put (some 137) (.tuple #[.agg #[.slice (some ⟨g6, 0, none⟩) m c6], .bool true])).put (some 23) vx) ∧ Hid (OwnN w W8.heap.size g6 m c6 E) ∧ VB W8 xb vx w zAr) 4 ?_ ?_ ?_ ?_ ?_ ?_
        · intro xb; cases xb <;> kernel_rfl
        · intro xb; cases xb <;> kernel_rfl
        · intro xb; cases xb <;> kernel_rfl
        · exact fun _ _ _ _ h => h
        · rintro xb a w hSw ⟨vx, g6, c6, rfl, Ho6, bx⟩
          refine ⟨.tuple #[.agg #[.slice (some ⟨g6, 0, none⟩) m c6], .bool true], Or.inl ⟨by rw [HA0.out]; rfl, ?_⟩, vx, g6, c6, (by rw [HA0.out]; simp only [Act.put, List.setIfInBounds_toArray, List.set_cons_zero, List.set_cons_succ, List.getElem_toArray, List.getElem_cons_zero, List.getElem_cons_succ]), Ho6, bx⟩
          rw [HA0.out]
          simp only [Act.put, List.setIfInBounds_toArray, List.set_cons_zero, List.set_cons_succ]
          intro w hSw; go_simp <;> with_reducible rfl
        refine stage1T (i := 19) rfl (by kernel_rfl) (fun xb => #[true, true, true, true, true, true, true, true, true, true, true, true, true, true, true, true, true, true, true, false, false, xb, false, false]) (fun xb => #[true, true, true, true, true, true, true, true, true, true, true, true, true, true, true, true, true, true, true, true, false, xb, false, false]) (fun xb a w => ∃ (vx : Value) (g6 : Nat) (c6 : Nat), a = (((a0.put (some 155) (.tuple #[.agg #[.slice (some ⟨g6, 0, none⟩) m c6], .bool true])).put (some 137) (.tuple #[.agg #[.slice (some ⟨g6, 0, none⟩) m c6], .bool true])).put (some 23) vx) ∧ Hid (OwnN w W8.heap.size g6 m c6 E) ∧ VB W8 xb vx w zAr) (fun xb a w => ∃ (vx : Value) (g6 : Nat) (c6 : Nat), a = ((((a0.put (some 155) (.tuple #[.agg #[.slice (some ⟨g6, 0, none⟩) m c6], .bool true])).put (some 137) (.tuple #[.agg #[.slice (some ⟨g6, 0, none⟩) m c6], .bool true])).put (some 156) (.agg #[.slice (some ⟨g6, 0, none⟩) m c6])).put (some 23) vx) ∧ Hid (OwnN w W8.heap.size g6 m c6 E) ∧ VB W8 xb vx w zAr) 3 ?_ ?_ ?_ ?_ ?_ ?_
        · intro xb; cases xb <;> kernel_rfl
        · intro xb; cases xb <;> kernel_rfl
        · intro xb; cases xb <;> kernel_rfl
        · exact fun _ _ _ _ h => h
        · rintro xb a w hSw ⟨vx, g6, c6, rfl, Ho6, bx⟩
          refine ⟨.agg #[.slice (some ⟨g6, 0, none⟩) m c6], Or.inl ⟨by rw [HA0.out]; rfl, ?_⟩, vx, g6, c6, (by rw [HA0.out]; simp only [Act.put, List.setIfInBounds_toArray, List.set_cons_zero, List.set_cons_succ, List.getElem_toArray, List.getElem_cons_zero, List.getElem_cons_succ]), Ho6, bx⟩
          rw [HA0.out]
          simp only [Act.put, List.setIfInBounds_toArray, List.set_cons_zero, List.set_cons_succ]
          intro w hSw; go_simp <;> with_reducible rfl
        refine stage1T (i := 20) rfl (by kernel_rfl) (fun xb => #[true, true, true, true, true, true, true, true, true, true, true, true, true, true, true, true, true, true, true, true, false, xb, false, false]) (fun xb => #[true, true, true, true, true, true, true, true, true, true, true, true, true, true, true, true, true, true, true, true, true, xb, false, false]) (fun xb a w => ∃ (vx : Value) (g6 : Nat) (c6 : Nat), a = ((((a0.put (some 155) (.tuple #[.agg #[.slice (some ⟨g6, 0, none⟩) m c6], .bool true])).put (some 137) (.tuple #[.agg #[.slice (some ⟨g6, 0, none⟩) m c6], .bool true])).put (some 156) (.agg #[.slice (some ⟨g6, 0, none⟩) m c6])).put (some 23) vx) ∧ Hid (OwnN w W8.heap.size g6 m c6 E) ∧ VB W8 xb vx w zAr) (fun xb a w => ∃ (vx : Value) (g6 : Nat) (c6 : Nat), a = (((((a0.put (some 155) (.tuple #[.agg #[.slice (some ⟨g6, 0, none⟩) m c6], .bool true])).put (some 137) (.tuple #[.agg #[.slice (some ⟨g6, 0, none⟩) m c6], .bool true])).put (some 156) (.agg #[.slice (some ⟨g6, 0, none⟩) m c6])).put (some 157) (.bool true)).put (some 23) vx) ∧ Hid (OwnN w W8.heap.size g6 m c6 E) ∧ VB W8 xb vx w zAr) 2 ?_ ?_ ?_ ?_ ?_ ?_
        · intro xb; cases xb <;> kernel_rfl
        · intro xb; cases xb <;> kernel_rfl
        · intro xb; cases xb <;> kernel_rfl
        · exact fun _ _ _ _ h => h
        · rintro xb a w hSw ⟨vx, g6, c6, rfl, Ho6, bx⟩
          refine ⟨.bool true, Or.inl ⟨by rw [HA0.out]; rfl, ?_⟩, vx, g6, c6, (by rw [HA0.out]; simp only [Act.put, List.setIfInBounds_toArray, List.set_cons_zero, List.set_cons_succ, List.getElem_toArray, List.getElem_cons_zero, List.getElem_cons_succ]), Ho6, bx⟩
          rw [HA0.out]
          simp only [Act.put, List.setIfInBounds_toArray, List.set_cons_zero, List.set_cons_succ]
          intro w hSw; go_simp <;> with_reducible rfl
        refine stage1e (i1 := 21) (fun xb => #[true, true, true, true, true, true, true, true, true, true, true, true, true, true, true, true, true, true, true, true, true, xb, false, false]) (fun xb a w => ∃ (vx : Value) (g6 : Nat) (c6 : Nat), a = (((((a0.put (some 155) (.tuple #[.agg #[.slice (some ⟨g6, 0, none⟩) m c6], .bool true])).put (some 137) (.tuple #[.agg #[.slice (some ⟨g6, 0, none⟩) m c6], .bool true])).put (some 156) (.agg #[.slice (some ⟨g6, 0, none⟩) m c6])).put (some 157) (.bool true)).put (some 23) vx) ∧ Hid (OwnN w W8.heap.size g6 m c6 E) ∧ VB W8 xb vx w zAr) 2 ?_ ?_ ?_ ?_ ?_
        · intro i hi; have e_ := mem_kernel (rs := [21]) (by kernel_rfl) hi; simpa using e_
        · exact ne_kernel (rs := [21]) (by kernel_rfl) (by simp)
        · kernel_rfl
        · rintro a w hSw ⟨vx, g6, c6, rfl, Ho6, bx⟩
          refine wpOp_step (i := 21) rfl (fun K hK => ?_)
          have HK : Shut _ := hK
          clear hK
          rw [HA0.out]
          simp only [Act.put, List.setIfInBounds_toArray, List.set_cons_zero, List.set_cons_succ]
          go_simp
          exact HK.out _ _ ⟨bel_on (Nat.le_refl _) hSw (al1_b w zAr), _, g6, c6, (by rw [HA0.out]; simp only [Act.put, List.setIfInBounds_toArray, List.set_cons_zero, List.set_cons_succ] <;> (first | with_reducible rfl | rfl)), hid (Ho6.out.on (al1_b w zAr)), VB.new hSw⟩
        · rintro fu a w hf hSw ⟨vx, g6, c6, rfl, Ho6, bx⟩
          obtain ⟨f2, rfl⟩ : ∃ f2, fu = f2 + 2 := ⟨fu - 2, by omega⟩
          obtain ⟨b1, rfl, hz1, l1⟩ := bx rfl
          have kz1 := row1_cells hz1
          rw [HA0.out]
          simp only [Act.put, List.setIfInBounds_toArray, List.set_cons_zero, List.set_cons_succ]
          refine wpAnyH_ready (rs := [22]) (by kernel_rfl) (by simp) ?_
          refine AllReadyH.cons rfl (fun K hK => ?_) AllReadyH.nil
          go_simp
          refine hK.out _ _ ?_ (fun hHeld2 => ?_)
          · exact (Below.setCell hSw l1 _)
          clear hK K
          try simp only [List.setIfInBounds_toArray, List.set_cons_zero, List.set_cons_succ]
          refine wpAnyH_take (i := 23) (v := ?_) rfl (by kernel_rfl) (by kernel_rfl) (by kernel_rfl) (fun _ _ _ h => h) (Or.inl ⟨by rfl, ?_⟩) (by assumption) ?_
          rotate_left
          · intro w_ hSw2; (try dsimp only at hSw2); go_simp <;> with_reducible rfl
          try simp only [Act.put, List.setIfInBounds_toArray, List.set_cons_zero, List.set_cons_succ, List.getElem_toArray, List.getElem_cons_zero, List.getElem_cons_succ]
          clear hHeld2
          refine wpAnyH_done (by kernel_rfl) ?_ _
          (try go_wp2_with fail)
          go_meet
          exact ⟨b1, g6, c6, rfl, rfl, hid ⟨set1_row (i := 0) hz1, Ho6.out.set (own_ne Ho6.out hz1 (by decide)), hSw.setCell l1 _⟩⟩
    case rest =>
    clear QA QF QG QT QY QX QR HRA8
    rename World => wS
    obtain ⟨kz, g6, c6, rfl, rfl, HM⟩ := hcut
    have kz1 := row1_cells HM.out.1
    have kz2 := row1_cells (HB.out.on HM.out.2.2).ar
    go_wp2_with fail
    go_meet
    exact ⟨g6, c6, HB.out.cells HM.out.2.2 HM.out.2.1, Dk.cells HB.out HD.out HM.out.2.2 HM.out.2.1⟩
  case rest =>
  clear HB HD
  rename World => W9
  obtain ⟨g6, c6, HB, HD⟩ := hcut
  rename_i KK hKK
  refine hKK _ _ ?_
  exact specTail w pc (some ⟨gq, oq, none⟩) st n cp ad ce m ca f s t 3 arg T r U V E (st.take r) (pc + 1) 0 0 0 r k13 k14 kd kA kE g1 c1 g3 c3 g6 c6 W9 _ _ _ _ _ _ _ _ _ _ _ _ _ _ _ _ _ _ _ _ _ _ _ _ _ _ _ _ _ _ _ _ _ _ _ _ _ _ _ _ _ _ _ _ _ _ _ _ _ _ _ _ _ _ _ _ _ _ _ _ _ _ _ _ _ _ _ _ _ _ _ _ _ _ _ _ _ _ _ _ _ _ _ _ _ _ _ _ _ _ _ _ _ _ _ _ _ _ _ _ _ _ _ _ _ _ _ _ _ _ _ _ _ _ _ _ _ _ _ _ _ _ _ _ _ _ _ _ _ _ _ _ _ _ _ _ _ _ _ _ _ _ _ _ _ _ _ _ _ _ _ _ _ _ _ _ _ _ _ _ _ _ _ _ _ _ _ _ _ _ _ _ _ _ _ _ _ _ _ _ _ _ _ _ _ _ _ _ _ _ _ _ _ _ _ _ _ _ _ _ _ _ _ _ _ _ _ _ _ _ _ _ _ _ _ _ _ _ _ _ _ _ _ _ _ _ _ _ _ _ _ _ _ _ _ _ _ _ _ _ _ _ _ _ _ _ _ _ _ _ _ _ _ _ _ _ _ _ _ _ _ _ _ _ _ _ _ _ _ _ hnr hru hov h61 HB.out HD.out

set_option maxRecDepth 100000 in
set_option maxHeartbeats 4000000 in
theorem swStoreNo (w : World) (pc : Int) (gq oq : Nat) (st : List Int) (n cp : Nat) (ad : Addr) (ce : List Int) (m ca : Nat) (f s t arg : Int) (T r : Nat) (U V : Int) (hrb : r ≤ 1048576) (hnr : IntKind.i64.wrap ((n : Int) - T) = (r : Int)) (hru : IntKind.i64.wrap ((r : Int) + U) = V) (x y : Int) (r1 : Nat) (hky : w.cell? ⟨gq, oq + r, none⟩ = some (.int .i64 y)) (hkx : w.cell? ⟨gq, oq + r1, none⟩ = some (.int .i64 x)) (hri : r < n) (hri2 : (r : Int) < (n : Int)) (hri3 : r1 < n) (hri4 : (r1 : Int) < (n : Int)) (hn1 : IntKind.i64.wrap ((n : Int) - 1) = (r1 : Int)) (hn2 : IntKind.i64.wrap ((n : Int) - 2) = (r : Int)) (X : Int) (E : List Int) (hX : IntKind.i64.wrap (y + arg) = X) (hE : stL ce f s X x = E) (hEB : ldB m f s X = false) (hla : ce.length = m) (hm : m ≤ 1048576) (hra : Rd w (some ad) ce) : SwOk w pc (some ⟨gq, oq, none⟩) st n cp ad ce m ca f s t 3 arg T r U (StepPost w m (trapR pc st ce 2) (n)) := by
  have HKX : Hid (_ = _) := hkx
  clear hkx
  have HKY : Hid (_ = _) := hky
  clear hky
  have HE : Hid (stL ce f s X x = E) := hE
  have HEB : Hid (ldB m f s X = false) := hEB
  have HLA : Hid (ce.length = m) := hla
  have HRA : Hid (Rd w (some ad) ce) := hra
  clear hE hEB hla hra
  intro k13 k14 kd kA kE g1 c1 g3 c3 g4 c4 W8 s0 s1 s2 s3 s6 s9 u21 u22 u23 u24 u25 u26 u27 u28 u29 u30 u31 u32 u33 u34 u35 u36 u37 u38 u39 u40 u41 u42 u43 u44 u45 u46 u47 u48 u49 u50 u51 u52 u53 u54 u55 u56 u57 u58 u59 u60 u61 u62 u63 u64 u65 u66 u67 u68 u69 u70 u71 u72 u73 u74 u75 u76 u77 u78 u79 u80 u81 u82 u83 u84 u85 u86 u87 u88 u89 u90 u91 u92 u93 u94 u95 u96 u97 u98 u99 u100 u101 u102 u103 u104 u105 u106 u107 u108 u109 u110 u111 u112 u113 u114 u115 u116 u117 u118 u119 u120 u121 u122 u123 u124 u125 u126 u127 u128 u129 u130 u131 u132 u133 u134 u135 u136 u137 u138 u139 u140 u141 u142 u143 u144 u145 u146 u147 u148 u149 u150 u151 u152 u153 u154 u155 u156 u157 u158 u159 u160 u161 u162 u163 u164 u165 u166 u167 u168 u169 u170 u171 u172 u173 u174 u175 u176 u177 u178 u179 u180 u181 u182 u183 u184 u185 u186 u187 u188 u189 u190 u191 u192 u193 u194 u195 u196 u197 u198 u199 u200 u201 u202 u203 u204 u205 u206 u207 u208 u209 u210 u211 u212 u213 u214 u215 u216 u217 u218 u219 u220 u221 u222 u223 u224 u225 u226 u227 u228 u229 u230 u231 u232 u233 u234 u235 u236 u237 u238 u239 u240 u241 u242 u243 u244 u245 u246 u247 u248 u249 u250 u251 u252 u253 u254 u255 u256 u257 u258 u259 u260 u261 u262 u263 u264 u265 u266 u267 u268 u269 u270 u271 u272 u273 u274 u275 u276 u277 u278 u279 u280 u281 u282 u283 u284 hB hD
  have HB : Hid (Bk w W8 pc (.slice (some ⟨gq, oq, none⟩) n cp) (.slice (some ad) m ca) f s k13 g1 n c1 st k14 3 arg kA g4 m c4 ce kE 0 0 0) := hB
  have HD : Hid (Dk w W8 kd (pc + 1) g3 r c3 (st.take r) k13 g1 g4) := hD
  clear hB hD
  unfold WpSw
  change Code.wp Try.prog (Code.seq (Code.seq (Code.region 14 _ _) (Code.block 0 _)) _) _ _ _
  have ki := row2_cells HB.out.ins
  go_upto_block 0 with fail
  go_wp2_with fail
  clear ki
  have QA : Hid (W8.cell? ⟨w.heap.size + 1, 0, none⟩ = some (.slice (some ad) m ca)) := (row1_cells HB.out.six.2.1).1
  have QF : Hid (W8.cell? ⟨w.heap.size + 1 + 1, 0, none⟩ = some (.int .i64 f)) := (row2_cells HB.out.six.2.2.1).1
  have QG : Hid (W8.cell? ⟨w.heap.size + 1 + 1, 1, none⟩ = some (.int .i64 s)) := (row2_cells HB.out.six.2.2.1).2.1
  have QT : Hid (W8.cell? ⟨w.heap.size, 1, none⟩ = some (.slice (some ⟨gq, oq, none⟩) n cp)) := (row2_cells HB.out.six.1).2.1
  have QY : Hid (W8.cell? ⟨gq, oq + r, none⟩ = some (.int .i64 y)) := bel_cell HKY.out HB.out.six.bel (Nat.le_refl _)
  have QX : Hid (W8.cell? ⟨gq, oq + r1, none⟩ = some (.int .i64 x)) := bel_cell HKX.out HB.out.six.bel (Nat.le_refl _)
  have QR : Hid (W8.cell? ⟨k14, 1, none⟩ = some (.int .i64 arg)) := (row2_cells HB.out.ins).2.1
  have HRA8 : Hid (Rd W8 (some ad) ce) := HRA.out.keep HB.out.six.bel (Nat.le_refl _)
  go_cut [23, 24] (fun o1 o2 wc => ∃ (kz : Nat), o1 = .pointer (some ⟨kz, 0, none⟩) ∧ o2 = .bool false ∧ Hid (Below W8.heap.size W8 wc))
  case first =>
    refine wp_region_held_drew (S := fun w' => Below W8.heap.size W8 w') (by kernel_rfl) (Below.refl _ _).drew (fun hHeld => ?_)
    refine wpAnyH_take (i := 0) (v := ?_) rfl (by kernel_rfl) (by kernel_rfl) (by kernel_rfl) (fun _ _ _ h => h) (Or.inl ⟨by rfl, ?_⟩) (by assumption) ?_
    rotate_left
    · intro w_ hSw; (try dsimp only at hSw); have q0_ := cell_on QA.out hSw; have q1_ := cell_on QF.out hSw; have q2_ := cell_on QG.out hSw; have q3_ := cell_on QT.out hSw; have q4_ := cell_on QY.out hSw; have q5_ := cell_on QX.out hSw; have q6_ := cell_on QR.out hSw; go_simp <;> with_reducible rfl
    simp only [Act.put, List.setIfInBounds_toArray, List.set_cons_zero, List.set_cons_succ, List.getElem_toArray, List.getElem_cons_zero]
    refine wpAnyH_take (i := 1) (v := ?_) rfl (by kernel_rfl) (by kernel_rfl) (by kernel_rfl) (fun _ _ _ h => h) (Or.inl ⟨by rfl, ?_⟩) (by assumption) ?_
    rotate_left
    · intro w_ hSw; (try dsimp only at hSw); have q0_ := cell_on QA.out hSw; have q1_ := cell_on QF.out hSw; have q2_ := cell_on QG.out hSw; have q3_ := cell_on QT.out hSw; have q4_ := cell_on QY.out hSw; have q5_ := cell_on QX.out hSw; have q6_ := cell_on QR.out hSw; go_simp <;> with_reducible rfl
    simp only [Act.put, List.setIfInBounds_toArray, List.set_cons_zero, List.set_cons_succ, List.getElem_toArray, List.getElem_cons_zero, List.getElem_cons_succ]
    refine wpAnyH_take (i := 2) (v := ?_) rfl (by kernel_rfl) (by kernel_rfl) (by kernel_rfl) (fun _ _ _ h => h) (Or.inl ⟨by rfl, ?_⟩) (by assumption) ?_
    rotate_left
    · intro w_ hSw; (try dsimp only at hSw); have q0_ := cell_on QA.out hSw; have q1_ := cell_on QF.out hSw; have q2_ := cell_on QG.out hSw; have q3_ := cell_on QT.out hSw; have q4_ := cell_on QY.out hSw; have q5_ := cell_on QX.out hSw; have q6_ := cell_on QR.out hSw; go_simp <;> with_reducible rfl
    simp only [Act.put, List.setIfInBounds_toArray, List.set_cons_zero, List.set_cons_succ, List.getElem_toArray, List.getElem_cons_zero, List.getElem_cons_succ]
    refine wpAnyH_take (i := 3) (v := ?_) rfl (by kernel_rfl) (by kernel_rfl) (by kernel_rfl) (fun _ _ _ h => h) (Or.inl ⟨by rfl, ?_⟩) (by assumption) ?_
    rotate_left
    · intro w_ hSw; (try dsimp only at hSw); have q0_ := cell_on QA.out hSw; have q1_ := cell_on QF.out hSw; have q2_ := cell_on QG.out hSw; have q3_ := cell_on QT.out hSw; have q4_ := cell_on QY.out hSw; have q5_ := cell_on QX.out hSw; have q6_ := cell_on QR.out hSw; go_simp <;> with_reducible rfl
    simp only [Act.put, List.setIfInBounds_toArray, List.set_cons_zero, List.set_cons_succ, List.getElem_toArray, List.getElem_cons_zero, List.getElem_cons_succ]
    refine wpAnyH_take (i := 4) (v := ?_) rfl (by kernel_rfl) (by kernel_rfl) (by kernel_rfl) (fun _ _ _ h => h) (Or.inl ⟨by rfl, ?_⟩) (by assumption) ?_
    rotate_left
    · intro w_ hSw; (try dsimp only at hSw); have q0_ := cell_on QA.out hSw; have q1_ := cell_on QF.out hSw; have q2_ := cell_on QG.out hSw; have q3_ := cell_on QT.out hSw; have q4_ := cell_on QY.out hSw; have q5_ := cell_on QX.out hSw; have q6_ := cell_on QR.out hSw; go_simp <;> with_reducible rfl
    simp only [Act.put, List.setIfInBounds_toArray, List.set_cons_zero, List.set_cons_succ, List.getElem_toArray, List.getElem_cons_zero, List.getElem_cons_succ]
    refine wpAnyH_take (i := 5) (v := .int .i64 (r : Int)) rfl (by kernel_rfl) (by kernel_rfl) (by kernel_rfl) (fun _ _ _ h => h) (Or.inl ⟨by rfl, ?_⟩) (by assumption) ?_
    · intro w_ hSw; (try dsimp only at hSw); have q0_ := cell_on QA.out hSw; have q1_ := cell_on QF.out hSw; have q2_ := cell_on QG.out hSw; have q3_ := cell_on QT.out hSw; have q4_ := cell_on QY.out hSw; have q5_ := cell_on QX.out hSw; have q6_ := cell_on QR.out hSw; go_simp
    simp only [Act.put, List.setIfInBounds_toArray, List.set_cons_zero, List.set_cons_succ, List.getElem_toArray, List.getElem_cons_zero, List.getElem_cons_succ]
    refine wpAnyH_take (i := 6) (v := .pointer (some ⟨gq, oq + r, none⟩)) rfl (by kernel_rfl) (by kernel_rfl) (by kernel_rfl) (fun _ _ _ h => h) (Or.inl ⟨by rfl, ?_⟩) (by assumption) ?_
    · intro w_ hSw; (try dsimp only at hSw); have q0_ := cell_on QA.out hSw; have q1_ := cell_on QF.out hSw; have q2_ := cell_on QG.out hSw; have q3_ := cell_on QT.out hSw; have q4_ := cell_on QY.out hSw; have q5_ := cell_on QX.out hSw; have q6_ := cell_on QR.out hSw; go_simp
    simp only [Act.put, List.setIfInBounds_toArray, List.set_cons_zero, List.set_cons_succ, List.getElem_toArray, List.getElem_cons_zero, List.getElem_cons_succ]
    refine wpAnyH_take (i := 7) (v := .int .i64 y) rfl (by kernel_rfl) (by kernel_rfl) (by kernel_rfl) (fun _ _ _ h => h) (Or.inl ⟨by rfl, ?_⟩) (by assumption) ?_
    · intro w_ hSw; (try dsimp only at hSw); have q0_ := cell_on QA.out hSw; have q1_ := cell_on QF.out hSw; have q2_ := cell_on QG.out hSw; have q3_ := cell_on QT.out hSw; have q4_ := cell_on QY.out hSw; have q5_ := cell_on QX.out hSw; have q6_ := cell_on QR.out hSw; go_simp
    simp only [Act.put, List.setIfInBounds_toArray, List.set_cons_zero, List.set_cons_succ, List.getElem_toArray, List.getElem_cons_zero, List.getElem_cons_succ]
    refine wpAnyH_take (i := 8) (v := ?_) rfl (by kernel_rfl) (by kernel_rfl) (by kernel_rfl) (fun _ _ _ h => h) (Or.inl ⟨by rfl, ?_⟩) (by assumption) ?_
    rotate_left
    · intro w_ hSw; (try dsimp only at hSw); have q0_ := cell_on QA.out hSw; have q1_ := cell_on QF.out hSw; have q2_ := cell_on QG.out hSw; have q3_ := cell_on QT.out hSw; have q4_ := cell_on QY.out hSw; have q5_ := cell_on QX.out hSw; have q6_ := cell_on QR.out hSw; go_simp <;> with_reducible rfl
    simp only [Act.put, List.setIfInBounds_toArray, List.set_cons_zero, List.set_cons_succ, List.getElem_toArray, List.getElem_cons_zero, List.getElem_cons_succ]
    refine wpAnyH_take (i := 9) (v := ?_) rfl (by kernel_rfl) (by kernel_rfl) (by kernel_rfl) (fun _ _ _ h => h) (Or.inl ⟨by rfl, ?_⟩) (by assumption) ?_
    rotate_left
    · intro w_ hSw; (try dsimp only at hSw); have q0_ := cell_on QA.out hSw; have q1_ := cell_on QF.out hSw; have q2_ := cell_on QG.out hSw; have q3_ := cell_on QT.out hSw; have q4_ := cell_on QY.out hSw; have q5_ := cell_on QX.out hSw; have q6_ := cell_on QR.out hSw; go_simp <;> with_reducible rfl
    simp only [Act.put, List.setIfInBounds_toArray, List.set_cons_zero, List.set_cons_succ, List.getElem_toArray, List.getElem_cons_zero, List.getElem_cons_succ]
    refine wpAnyH_take (i := 10) (v := .int .i64 X) rfl (by kernel_rfl) (by kernel_rfl) (by kernel_rfl) (fun _ _ _ h => h) (Or.inl ⟨by rfl, ?_⟩) (by assumption) ?_
    · intro w_ hSw; (try dsimp only at hSw); have q0_ := cell_on QA.out hSw; have q1_ := cell_on QF.out hSw; have q2_ := cell_on QG.out hSw; have q3_ := cell_on QT.out hSw; have q4_ := cell_on QY.out hSw; have q5_ := cell_on QX.out hSw; have q6_ := cell_on QR.out hSw; go_simp
    simp only [Act.put, List.setIfInBounds_toArray, List.set_cons_zero, List.set_cons_succ, List.getElem_toArray, List.getElem_cons_zero, List.getElem_cons_succ]
    refine wpAnyH_take (i := 11) (v := ?_) rfl (by kernel_rfl) (by kernel_rfl) (by kernel_rfl) (fun _ _ _ h => h) (Or.inl ⟨by rfl, ?_⟩) (by assumption) ?_
    rotate_left
    · intro w_ hSw; (try dsimp only at hSw); have q0_ := cell_on QA.out hSw; have q1_ := cell_on QF.out hSw; have q2_ := cell_on QG.out hSw; have q3_ := cell_on QT.out hSw; have q4_ := cell_on QY.out hSw; have q5_ := cell_on QX.out hSw; have q6_ := cell_on QR.out hSw; go_simp <;> with_reducible rfl
    simp only [Act.put, List.setIfInBounds_toArray, List.set_cons_zero, List.set_cons_succ, List.getElem_toArray, List.getElem_cons_zero, List.getElem_cons_succ]
    refine wpAnyH_take (i := 12) (v := ?_) rfl (by kernel_rfl) (by kernel_rfl) (by kernel_rfl) (fun _ _ _ h => h) (Or.inl ⟨by rfl, ?_⟩) (by assumption) ?_
    rotate_left
    · intro w_ hSw; (try dsimp only at hSw); have q0_ := cell_on QA.out hSw; have q1_ := cell_on QF.out hSw; have q2_ := cell_on QG.out hSw; have q3_ := cell_on QT.out hSw; have q4_ := cell_on QY.out hSw; have q5_ := cell_on QX.out hSw; have q6_ := cell_on QR.out hSw; go_simp <;> with_reducible rfl
    simp only [Act.put, List.setIfInBounds_toArray, List.set_cons_zero, List.set_cons_succ, List.getElem_toArray, List.getElem_cons_zero, List.getElem_cons_succ]
    refine wpAnyH_take (i := 13) (v := ?_) rfl (by kernel_rfl) (by kernel_rfl) (by kernel_rfl) (fun _ _ _ h => h) (Or.inl ⟨by rfl, ?_⟩) (by assumption) ?_
    rotate_left
    · intro w_ hSw; (try dsimp only at hSw); have q0_ := cell_on QA.out hSw; have q1_ := cell_on QF.out hSw; have q2_ := cell_on QG.out hSw; have q3_ := cell_on QT.out hSw; have q4_ := cell_on QY.out hSw; have q5_ := cell_on QX.out hSw; have q6_ := cell_on QR.out hSw; go_simp <;> with_reducible rfl
    simp only [Act.put, List.setIfInBounds_toArray, List.set_cons_zero, List.set_cons_succ, List.getElem_toArray, List.getElem_cons_zero, List.getElem_cons_succ]
    refine wpAnyH_take (i := 14) (v := .int .i64 (r1 : Int)) rfl (by kernel_rfl) (by kernel_rfl) (by kernel_rfl) (fun _ _ _ h => h) (Or.inl ⟨by rfl, ?_⟩) (by assumption) ?_
    · intro w_ hSw; (try dsimp only at hSw); have q0_ := cell_on QA.out hSw; have q1_ := cell_on QF.out hSw; have q2_ := cell_on QG.out hSw; have q3_ := cell_on QT.out hSw; have q4_ := cell_on QY.out hSw; have q5_ := cell_on QX.out hSw; have q6_ := cell_on QR.out hSw; go_simp
    simp only [Act.put, List.setIfInBounds_toArray, List.set_cons_zero, List.set_cons_succ, List.getElem_toArray, List.getElem_cons_zero, List.getElem_cons_succ]
    refine wpAnyH_take (i := 15) (v := .pointer (some ⟨gq, oq + r1, none⟩)) rfl (by kernel_rfl) (by kernel_rfl) (by kernel_rfl) (fun _ _ _ h => h) (Or.inl ⟨by rfl, ?_⟩) (by assumption) ?_
    · intro w_ hSw; (try dsimp only at hSw); have q0_ := cell_on QA.out hSw; have q1_ := cell_on QF.out hSw; have q2_ := cell_on QG.out hSw; have q3_ := cell_on QT.out hSw; have q4_ := cell_on QY.out hSw; have q5_ := cell_on QX.out hSw; have q6_ := cell_on QR.out hSw; go_simp
    simp only [Act.put, List.setIfInBounds_toArray, List.set_cons_zero, List.set_cons_succ, List.getElem_toArray, List.getElem_cons_zero, List.getElem_cons_succ]
    refine wpAnyH_take (i := 16) (v := .int .i64 x) rfl (by kernel_rfl) (by kernel_rfl) (by kernel_rfl) (fun _ _ _ h => h) (Or.inl ⟨by rfl, ?_⟩) (by assumption) ?_
    · intro w_ hSw; (try dsimp only at hSw); have q0_ := cell_on QA.out hSw; have q1_ := cell_on QF.out hSw; have q2_ := cell_on QG.out hSw; have q3_ := cell_on QT.out hSw; have q4_ := cell_on QY.out hSw; have q5_ := cell_on QX.out hSw; have q6_ := cell_on QR.out hSw; go_simp
    simp only [Act.put, List.setIfInBounds_toArray, List.set_cons_zero, List.set_cons_succ, List.getElem_toArray, List.getElem_cons_zero, List.getElem_cons_succ]
    refine wpAnyH_named (fun a0 ha0 => ?_)
    have HA0 : Hid (a0 = _) := ha0
    clear ha0
    refine main_go1 (L := (fun xb => #[true, true, true, true, true, true, true, true, true, true, true, true, true, true, true, true, true, false, false, false, false, xb, false, false])) (St := (fun xb a w => ∃ (vx : Value), a = (a0.put (some 23) vx) ∧ VB W8 xb vx w zAr)) (K := 6) ?h (by kernel_rfl) (by decide) (by assumption) ⟨a0.tmps.getD 23 undef, (by simp only [put_self]), VB.no _ _ _ _⟩
    case h =>
      refine stage1 (i1 := 21) (c := 17) (fun xb => #[true, true, true, true, true, true, true, true, true, true, true, true, true, true, true, true, true, false, false, false, false, xb, false, false]) (fun xb => #[true, true, true, true, true, true, true, true, true, true, true, true, true, true, true, true, true, true, false, false, false, xb, false, false]) (fun xb a w => ∃ (vx : Value), a = (a0.put (some 23) vx) ∧ VB W8 xb vx w zAr) (fun xb a w => ∃ (vx : Value) (q6 : Option Addr) (c6 : Nat), a = ((a0.put (some 155) (.tuple #[.agg #[.slice q6 m c6], .bool false])).put (some 23) vx) ∧ VB W8 xb vx w zAr) 5 ?_ ?_ ?_ ?_ ?_ ?_ ?_
      · intro xb i hi
        cases xb
        · have e_ := mem_kernel (rs := [17, 21]) (by kernel_rfl) hi; (first | (simp at e_ ⊢; done) | (simp at e_ ⊢; omega))
        · have e_ := mem_kernel (rs := [17]) (by kernel_rfl) hi; (first | (simp at e_ ⊢; done) | (simp at e_ ⊢; omega))
      · intro xb; cases xb
        · exact ne_kernel (rs := [17, 21]) (by kernel_rfl) (by simp)
        · exact ne_kernel (rs := [17]) (by kernel_rfl) (by simp)
      · kernel_rfl
      · intro xb; cases xb <;> kernel_rfl
      · rintro a w hSw ⟨vx, rfl, bx⟩
        refine wpOp_step (i := 21) rfl (fun K hK => ?_)
        have HK : Shut _ := hK
        clear hK
        rw [HA0.out]
        simp only [Act.put, List.setIfInBounds_toArray, List.set_cons_zero, List.set_cons_succ]
        go_simp
        exact HK.out _ _ ⟨bel_on (Nat.le_refl _) hSw (al1_b w zAr), _, (by rw [HA0.out]; simp only [Act.put, List.setIfInBounds_toArray, List.set_cons_zero, List.set_cons_succ] <;> (first | with_reducible rfl | rfl)), VB.new hSw⟩
      · rintro xb a w hSw ⟨vx, rfl, bx⟩
        refine wpOp_step (i := 17) rfl (fun K hK => ?_)
        have HK : Shut _ := hK
        clear hK
        rw [HA0.out]
        simp only [Act.put, List.setIfInBounds_toArray, List.set_cons_zero, List.set_cons_succ]
        go_simp
        go_at_call 58
        refine (storeS' ad ce m ca f s X x E false HLA.out hm HE.out HEB.out _ (HRA8.out.on hSw)).mono ?_
        rintro e wL ⟨v, rfl, hownL, hbL⟩
        obtain ⟨q6, c6, hv⟩ := own_shape hownL
        subst hv
        (try go_wp2_with fail)
        exact HK.out _ _ ⟨bel_on (Nat.le_refl _) hSw (hbL), vx, q6, c6, (by rw [HA0.out]; simp only [Act.put, List.setIfInBounds_toArray, List.set_cons_zero, List.set_cons_succ] <;> (first | with_reducible rfl | rfl)), bx.on (hbL)⟩
      refine stage1T (i := 18) rfl (by kernel_rfl) (fun xb => #[true, true, true, true, true, true, true, true, true, true, true, true, true, true, true, true, true, true, false, false, false, xb, false, false]) (fun xb => #[true, true, true, true, true, true, true, true, true, true, true, true, true, true, true, true, true, true, true, false, false, xb, false, false]) (fun xb a w => ∃ (vx : Value) (q6 : Option Addr) (c6 : Nat), a = ((a0.put (some 155) (.tuple #[.agg #[.slice q6 m c6], .bool false])).put (some 23) vx) ∧ VB W8 xb vx w zAr) (fun xb a w => ∃ (vx : Value) (q6 : Option Addr) (c6 : Nat), a = (((a0.put (some 155) (.tuple #[.agg #[.slice q6 m c6], .bool false])).put (some 137) (.tuple #[.agg #[.slice q6 m c6], .bool false])).put (some 23) vx) ∧ VB W8 xb vx w zAr) 4 ?_ ?_ ?_ ?_ ?_ ?_
      · intro xb; cases xb <;> kernel_rfl
      · intro xb; cases xb <;> kernel_rfl
      · intro xb; cases xb <;> kernel_rfl
      · exact fun _ _ _ _ h => h
      · rintro xb a w hSw ⟨vx, q6, c6, rfl, bx⟩
        refine ⟨.tuple #[.agg #[.slice q6 m c6], .bool false], Or.inl ⟨by rw [HA0.out]; rfl, ?_⟩, vx, q6, c6, (by rw [HA0.out]; simp only [Act.put, List.setIfInBounds_toArray, List.set_cons_zero, List.set_cons_succ, List.getElem_toArray, List.getElem_cons_zero, List.getElem_cons_succ]), bx⟩
        rw [HA0.out]
        simp only [Act.put, List.setIfInBounds_toArray, List.set_cons_zero, List.set_cons_succ]
        intro w hSw; go_simp <;> with_reducible rfl
      refine stage1T (i := 19) rfl (by kernel_rfl) (fun xb => #[true, true, true, true, true, true, true, true, true, true, true, true, true, true, true, true, true, true, true, false, false, xb, false, false]) (fun xb => #[true, true, true, true, true, true, true, true, true, true, true, true, true, true, true, true, true, true, true, true, false, xb, false, false]) (fun xb a w => ∃ (vx : Value) (q6 : Option Addr) (c6 : Nat), a = (((a0.put (some 155) (.tuple #[.agg #[.slice q6 m c6], .bool false])).put (some 137) (.tuple #[.agg #[.slice q6 m c6], .bool false])).put (some 23) vx) ∧ VB W8 xb vx w zAr) (fun xb a w => ∃ (vx : Value) (q6 : Option Addr) (c6 : Nat), a = ((((a0.put (some 155) (.tuple #[.agg #[.slice q6 m c6], .bool false])).put (some 137) (.tuple #[.agg #[.slice q6 m c6], .bool false])).put (some 156) (.agg #[.slice q6 m c6])).put (some 23) vx) ∧ VB W8 xb vx w zAr) 3 ?_ ?_ ?_ ?_ ?_ ?_
      · intro xb; cases xb <;> kernel_rfl
      · intro xb; cases xb <;> kernel_rfl
      · intro xb; cases xb <;> kernel_rfl
      · exact fun _ _ _ _ h => h
      · rintro xb a w hSw ⟨vx, q6, c6, rfl, bx⟩
        refine ⟨.agg #[.slice q6 m c6], Or.inl ⟨by rw [HA0.out]; rfl, ?_⟩, vx, q6, c6, (by rw [HA0.out]; simp only [Act.put, List.setIfInBounds_toArray, List.set_cons_zero, List.set_cons_succ, List.getElem_toArray, List.getElem_cons_zero, List.getElem_cons_succ]), bx⟩
        rw [HA0.out]
        simp only [Act.put, List.setIfInBounds_toArray, List.set_cons_zero, List.set_cons_succ]
        intro w hSw; go_simp <;> with_reducible rfl
      refine stage1T (i := 20) rfl (by kernel_rfl) (fun xb => #[true, true, true, true, true, true, true, true, true, true, true, true, true, true, true, true, true, true, true, true, false, xb, false, false]) (fun xb => #[true, true, true, true, true, true, true, true, true, true, true, true, true, true, true, true, true, true, true, true, true, xb, false, false]) (fun xb a w => ∃ (vx : Value) (q6 : Option Addr) (c6 : Nat), a = ((((a0.put (some 155) (.tuple #[.agg #[.slice q6 m c6], .bool false])).put (some 137) (.tuple #[.agg #[.slice q6 m c6], .bool false])).put (some 156) (.agg #[.slice q6 m c6])).put (some 23) vx) ∧ VB W8 xb vx w zAr) (fun xb a w => ∃ (vx : Value) (q6 : Option Addr) (c6 : Nat), a = (((((a0.put (some 155) (.tuple #[.agg #[.slice q6 m c6], .bool false])).put (some 137) (.tuple #[.agg #[.slice q6 m c6], .bool false])).put (some 156) (.agg #[.slice q6 m c6])).put (some 157) (.bool false)).put (some 23) vx) ∧ VB W8 xb vx w zAr) 2 ?_ ?_ ?_ ?_ ?_ ?_
      · intro xb; cases xb <;> kernel_rfl
      · intro xb; cases xb <;> kernel_rfl
      · intro xb; cases xb <;> kernel_rfl
      · exact fun _ _ _ _ h => h
      · rintro xb a w hSw ⟨vx, q6, c6, rfl, bx⟩
        refine ⟨.bool false, Or.inl ⟨by rw [HA0.out]; rfl, ?_⟩, vx, q6, c6, (by rw [HA0.out]; simp only [Act.put, List.setIfInBounds_toArray, List.set_cons_zero, List.set_cons_succ, List.getElem_toArray, List.getElem_cons_zero, List.getElem_cons_succ]), bx⟩
        rw [HA0.out]
        simp only [Act.put, List.setIfInBounds_toArray, List.set_cons_zero, List.set_cons_succ]
        intro w hSw; go_simp <;> with_reducible rfl
      refine stage1e (i1 := 21) (fun xb => #[true, true, true, true, true, true, true, true, true, true, true, true, true, true, true, true, true, true, true, true, true, xb, false, false]) (fun xb a w => ∃ (vx : Value) (q6 : Option Addr) (c6 : Nat), a = (((((a0.put (some 155) (.tuple #[.agg #[.slice q6 m c6], .bool false])).put (some 137) (.tuple #[.agg #[.slice q6 m c6], .bool false])).put (some 156) (.agg #[.slice q6 m c6])).put (some 157) (.bool false)).put (some 23) vx) ∧ VB W8 xb vx w zAr) 2 ?_ ?_ ?_ ?_ ?_
      · intro i hi; have e_ := mem_kernel (rs := [21]) (by kernel_rfl) hi; simpa using e_
      · exact ne_kernel (rs := [21]) (by kernel_rfl) (by simp)
      · kernel_rfl
      · rintro a w hSw ⟨vx, q6, c6, rfl, bx⟩
        refine wpOp_step (i := 21) rfl (fun K hK => ?_)
        have HK : Shut _ := hK
        clear hK
        rw [HA0.out]
        simp only [Act.put, List.setIfInBounds_toArray, List.set_cons_zero, List.set_cons_succ]
        go_simp
        exact HK.out _ _ ⟨bel_on (Nat.le_refl _) hSw (al1_b w zAr), _, q6, c6, (by rw [HA0.out]; simp only [Act.put, List.setIfInBounds_toArray, List.set_cons_zero, List.set_cons_succ] <;> (first | with_reducible rfl | rfl)), VB.new hSw⟩
      · rintro fu a w hf hSw ⟨vx, q6, c6, rfl, bx⟩
        obtain ⟨f2, rfl⟩ : ∃ f2, fu = f2 + 2 := ⟨fu - 2, by omega⟩
        obtain ⟨b1, rfl, hz1, l1⟩ := bx rfl
        have kz1 := row1_cells hz1
        rw [HA0.out]
        simp only [Act.put, List.setIfInBounds_toArray, List.set_cons_zero, List.set_cons_succ]
        refine wpAnyH_ready (rs := [22]) (by kernel_rfl) (by simp) ?_
        refine AllReadyH.cons rfl (fun K hK => ?_) AllReadyH.nil
        go_simp
        refine hK.out _ _ ?_ (fun hHeld2 => ?_)
        · exact (Below.setCell hSw l1 _)
        clear hK K
        try simp only [List.setIfInBounds_toArray, List.set_cons_zero, List.set_cons_succ]
        refine wpAnyH_take (i := 23) (v := ?_) rfl (by kernel_rfl) (by kernel_rfl) (by kernel_rfl) (fun _ _ _ h => h) (Or.inl ⟨by rfl, ?_⟩) (by assumption) ?_
        rotate_left
        · intro w_ hSw2; (try dsimp only at hSw2); go_simp <;> with_reducible rfl
        try simp only [Act.put, List.setIfInBounds_toArray, List.set_cons_zero, List.set_cons_succ, List.getElem_toArray, List.getElem_cons_zero, List.getElem_cons_succ]
        clear hHeld2
        refine wpAnyH_done (by kernel_rfl) ?_ _
        (try go_wp2_with fail)
        go_meet
        exact ⟨b1, rfl, rfl, hid (hSw.setCell l1 _)⟩
  case rest =>
  clear QA QF QG QT QY QX QR HRA8
  rename World => wS
  obtain ⟨kz, rfl, rfl, HM⟩ := hcut
  have HB2 : Hid (Bk w wS pc (.slice (some ⟨gq, oq, none⟩) n cp) (.slice (some ad) m ca) f s k13 g1 n c1 st k14 3 arg kA g4 m c4 ce kE 0 0 0) := HB.out.on HM.out
  have HD2 : Hid (Dk w wS kd (pc + 1) g3 r c3 (st.take r) k13 g1 g4) := HD.out.on HM.out
  go_wp2_with fail
  clear HB HD HM
  have HB := HB2
  have HD := HD2
  clear HB2 HD2
  have HX : Hid (Six w wS pc (.slice (some ⟨gq, oq, none⟩) n cp) (.slice (some ad) m ca) f s) := HB.out.six
  have HSm : Hid (wS.heap[k13]? = _) := HB.out.same
  have HOm : Hid (OwnN wS w.heap.size g1 n c1 st) := HB.out.own1
  have HK13 : Hid (w.heap.size + 6 ≤ k13) := HB.out.num.1
  have HG1 : Hid (w.heap.size + 6 ≤ g1) := HB.out.num.2.2.2.2.1
  clear HB HD
  have k3 : w.heap.size + 3 ≤ w.heap.size + 1 + 1 + 1 := by omega
  have k4 : w.heap.size + 3 ≤ w.heap.size + 1 + 1 + 1 + 1 := by omega
  have k5 : w.heap.size + 3 ≤ w.heap.size + 1 + 1 + 1 + 1 + 1 := by omega
  have n3 : k13 ≠ w.heap.size + 1 + 1 + 1 := by have := HK13.out; omega
  have n4 : k13 ≠ w.heap.size + 1 + 1 + 1 + 1 := by have := HK13.out; omega
  have n5 : k13 ≠ w.heap.size + 1 + 1 + 1 + 1 + 1 := by have := HK13.out; omega
  have HQ : Hid (wS.drew.cell? ⟨k13, 0, none⟩ = some (.int .i64 pc) ∧ wS.drew.cell? ⟨k13, 1, none⟩ = some (.slice (some ⟨g1, 0, none⟩) n c1) ∧ wS.drew.cell? ⟨w.heap.size + 1, 0, none⟩ = some (.slice (some ad) m ca) ∧ Below w.heap.size w wS.drew) := ⟨(row2_cells HSm.out).1, (row2_cells HSm.out).2.1, (row1_cells HX.out.2.1).1, HX.out.bel.drew⟩
  have hltX := HX.out.lt
  go_region_held3 (fun w' => w'.cell? ⟨k13, 0, none⟩ = some (.int .i64 pc) ∧ w'.cell? ⟨k13, 1, none⟩ = some (.slice (some ⟨g1, 0, none⟩) n c1) ∧ w'.cell? ⟨w.heap.size + 1, 0, none⟩ = some (.slice (some ad) m ca) ∧ Below w.heap.size w w') (first | (with_reducible exact HQ.out) | (with_reducible exact HQz.out) | (with_reducible exact t3_set k3 n3 (t3_set k3 n3 (by assumption))) | (with_reducible exact t3_set k4 n4 (by assumption)) | (with_reducible exact t3_set k5 n5 (t3_set k5 n5 (t3_set k5 n5 (t3_set k5 n5 (by assumption))))) | (with_reducible exact t3_on (by assumption) (by assumption))) (first | (go_at_call 54; refine (copySN (some ad) ce m ca HLA.out hm (by simp) _ ?_).mono ?_; (with_reducible exact HRA.out.keep (t3_bel (by assumption)) (Nat.le_refl _)); rintro e wB ⟨gB, cB, rfl, hownB, hbB⟩; have HXB : Hid (Six w wB pc (.slice (some ⟨gq, oq, none⟩) n cp) (.slice (some ad) m ca) f s) := HX.out.on (undrew hbB); have kr := HXB.out.outs; have HOB : Hid (OwnN wB w.heap.size g1 n c1 st) := HOm.out.on (undrew hbB); have HQz : Hid (_ ∧ _ ∧ _ ∧ _) := hid (by with_reducible exact t3_on hbB (by assumption))))
  have hgb1 : wS.heap.size + 2 ≤ gB := hownB.ge
  have hg1l : g1 < wS.heap.size := HOm.out.lt
  have hg16 : w.heap.size + 6 ≤ g1 := HG1.out
  have HO2 : Hid (OwnN wB w.heap.size gB m cB ce) := hownB.mono (by show w.heap.size ≤ wS.heap.size + 2; omega)
  have HBW : Hid (Below w.heap.size w wB) := HXB.out.bel
  rename_i HH
  clear HH hownB hbB HQz HQ
  go_wp2
  refine bodyPost_ret (v := .tuple #[.agg #[.int .i64 pc, .slice (some ⟨g1, 0, none⟩) n c1], .agg #[.slice (some ⟨gB, 0, none⟩) m cB], .agg #[.int .i64 0, .int .i64 0, .int .i64 0, .int .i64 2]]) (by simp [results, Try.results28, go_sem, kr]) rfl ?_
  refine ⟨g1, c1, gB, cB, rfl, ?_, ?_, ?_, ?_⟩
  · exact HOB.out.set7 (by omega) (by omega) (by omega)
  · exact HO2.out.set7 (by omega) (by omega) (by omega)
  · omega
  · exact below_set7 HBW.out (by omega) (by omega) (by omega)
end Go.Proofs.Ythnocibkgpofnaa
