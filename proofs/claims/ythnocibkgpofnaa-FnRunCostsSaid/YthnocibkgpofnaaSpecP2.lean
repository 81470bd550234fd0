/-
  The specification: what is done with two numbers.
-/
import Derived.Test.YthnocibkgpofnaaSpecT
namespace Go.Proofs.Ythnocibkgpofnaa
open Go.RowKit Go.PlainAid
set_option linter.unusedVariables false
set_option maxRecDepth 100000 in
set_option maxHeartbeats 4000000 in
theorem swSum4 (w : World) (pc : Int) (gq oq : Nat) (st : List Int) (n cp : Nat) (ad : Addr) (ce : List Int) (m ca : Nat) (f s t arg : Int) (T r : Nat) (U V : Int) (hrb : r ≤ 1048576) (hnr : IntKind.i64.wrap ((n : Int) - T) = (r : Int)) (hru : IntKind.i64.wrap ((r : Int) + U) = V) (x y : Int) (r1 : Nat) (hky : w.cell? ⟨gq, oq + r, none⟩ = some (.int .i64 y)) (hkx : w.cell? ⟨gq, oq + r1, none⟩ = some (.int .i64 x)) (hri : r < n) (hri2 : (r : Int) < (n : Int)) (hri3 : r1 < n) (hri4 : (r1 : Int) < (n : Int)) (hn1 : IntKind.i64.wrap ((n : Int) - 1) = (r1 : Int)) (hn2 : IntKind.i64.wrap ((n : Int) - 2) = (r : Int)) (Y : Int) (hwx : isW x) (hwy : isW y) (hY : sumV 4 y x = Y) (hYB : sumB 4 x = true) (hov : ¬ (8 < V)) (h61 : ¬ (60 < pc + 1)) : SwOk w pc (some ⟨gq, oq, none⟩) st n cp ad ce m ca f s t 4 arg T r U (StepPost w m (okR (pc + 1) (st.take r ++ [Y]) ce) (r + 1)) := by
  have HKX : Hid (_ = _) := hkx
  clear hkx
  have HKY : Hid (_ = _) := hky
  clear hky
  have HY : Hid (sumV 4 y x = Y) := hY
  have HYB : Hid (sumB 4 x = true) := hYB
  have HWX : Hid (isW x) := hwx
  have HWY : Hid (isW y) := hwy
  clear hY hYB hwx hwy
  intro k13 k14 kd kA kE g1 c1 g3 c3 g4 c4 W8 s0 s1 s2 s3 s6 s9 u21 u22 u23 u24 u25 u26 u27 u28 u29 u30 u31 u32 u33 u34 u35 u36 u37 u38 u39 u40 u41 u42 u43 u44 u45 u46 u47 u48 u49 u50 u51 u52 u53 u54 u55 u56 u57 u58 u59 u60 u61 u62 u63 u64 u65 u66 u67 u68 u69 u70 u71 u72 u73 u74 u75 u76 u77 u78 u79 u80 u81 u82 u83 u84 u85 u86 u87 u88 u89 u90 u91 u92 u93 u94 u95 u96 u97 u98 u99 u100 u101 u102 u103 u104 u105 u106 u107 u108 u109 u110 u111 u112 u113 u114 u115 u116 u117 u118 u119 u120 u121 u122 u123 u124 u125 u126 u127 u128 u129 u130 u131 u132 u133 u134 u135 u136 u137 u138 u139 u140 u141 u142 u143 u144 u145 u146 u147 u148 u149 u150 u151 u152 u153 u154 u155 u156 u157 u158 u159 u160 u161 u162 u163 u164 u165 u166 u167 u168 u169 u170 u171 u172 u173 u174 u175 u176 u177 u178 u179 u180 u181 u182 u183 u184 u185 u186 u187 u188 u189 u190 u191 u192 u193 u194 u195 u196 u197 u198 u199 u200 u201 u202 u203 u204 u205 u206 u207 u208 u209 u210 u211 u212 u213 u214 u215 u216 u217 u218 u219 u220 u221 u222 u223 u224 u225 u226 u227 u228 u229 u230 u231 u232 u233 u234 u235 u236 u237 u238 u239 u240 u241 u242 u243 u244 u245 u246 u247 u248 u249 u250 u251 u252 u253 u254 u255 u256 u257 u258 u259 u260 u261 u262 u263 u264 u265 u266 u267 u268 u269 u270 u271 u272 u273 u274 u275 u276 u277 u278 u279 u280 u281 u282 u283 u284 hB hD
  have HB : Hid (Bk w W8 pc (.slice (some ⟨gq, oq, none⟩) n cp) (.slice (some ad) m ca) f s k13 g1 n c1 st k14 4 arg kA g4 m c4 ce kE 0 0 0) := hB
  have HD : Hid (Dk w W8 kd (pc + 1) g3 r c3 (st.take r) k13 g1 g4) := hD
  clear hB hD
  unfold WpSw
  change Code.wp Try.prog (Code.seq (Code.seq (Code.region 14 _ _) (Code.block 0 _)) _) _ _ _
  have ki := row2_cells HB.out.ins
  go_upto_block 0 with fail
  go_cut [] (fun wc => ∃ (g5 c5 : Nat), Hid (Bk w wc pc (.slice (some ⟨gq, oq, none⟩) n cp) (.slice (some ad) m ca) f s k13 g1 n c1 st k14 4 arg kA g4 m c4 ce kE 0 0 0) ∧ Hid (Dk w wc kd (pc + 1) g5 (r + 1) c5 (st.take r ++ [Y]) k13 g1 g4))
  case first =>
    go_wp2_with fail
    clear ki
    have kqx := bel_cell HKX.out HB.out.six.bel (Nat.le_refl _)
    have kqy := bel_cell HKY.out HB.out.six.bel (Nat.le_refl _)
    have HQ : Hid (W8.drew.cell? ⟨k14, 0, none⟩ = some (.int .i64 4) ∧ W8.drew.cell? ⟨w.heap.size, 1, none⟩ = some (.slice (some ⟨gq, oq, none⟩) n cp) ∧ W8.drew.cell? ⟨gq, oq + r, none⟩ = some (.int .i64 y) ∧ W8.drew.cell? ⟨gq, oq + r1, none⟩ = some (.int .i64 x) ∧ W8.drew.cell? ⟨k14, 1, none⟩ = some (.int .i64 arg) ∧ W8.drew.cell? ⟨k14, 1, none⟩ = some (.int .i64 arg) ∧ Below W8.heap.size W8 W8.drew) := ⟨(row2_cells HB.out.ins).1, (row2_cells HB.out.six.1).2.1, kqy, kqx, (row2_cells HB.out.ins).2.1, (row2_cells HB.out.ins).2.1, (Below.refl _ _).drew⟩
    clear kqx kqy
    go_region_held3 (fun w' => w'.cell? ⟨k14, 0, none⟩ = some (.int .i64 4) ∧ w'.cell? ⟨w.heap.size, 1, none⟩ = some (.slice (some ⟨gq, oq, none⟩) n cp) ∧ w'.cell? ⟨gq, oq + r, none⟩ = some (.int .i64 y) ∧ w'.cell? ⟨gq, oq + r1, none⟩ = some (.int .i64 x) ∧ w'.cell? ⟨k14, 1, none⟩ = some (.int .i64 arg) ∧ w'.cell? ⟨k14, 1, none⟩ = some (.int .i64 arg) ∧ Below W8.heap.size W8 w') (first | (with_reducible exact HQ.out) | (with_reducible exact HQz.out) | (with_reducible exact q6_on (by assumption) (by assumption))) (first | (go_at_call 59; refine (sumS' 4 y x Y true (by decide) HWY.out HWX.out HY.out HYB.out _).mono ?_; rintro e wL ⟨rfl, hbL⟩; have HQz : Hid (_ ∧ _ ∧ _ ∧ _ ∧ _ ∧ _ ∧ _) := hid (by with_reducible exact q6_on hbL (by assumption))))
    rename_i HH
    clear HH
    have HB9 : Hid (Bk w wL pc (.slice (some ⟨gq, oq, none⟩) n cp) (.slice (some ad) m ca) f s k13 g1 n c1 st k14 4 arg kA g4 m c4 ce kE 0 0 0) := HB.out.on HQz.out.2.2.2.2.2.2
    have HD9 : Hid (Dk w wL kd (pc + 1) g3 r c3 (st.take r) k13 g1 g4) := HD.out.on HQz.out.2.2.2.2.2.2
    clear HQ HQz HB HD hbL
    have HB := HB9
    have HD := HD9
    clear HB9 HD9
    have kdd := row2_cells HD.out.box
    have HBa : Hid (Bk w (wL.alloc (.cells #[.int .i64 Y] 3)) pc (.slice (some ⟨gq, oq, none⟩) n cp) (.slice (some ad) m ca) f s k13 g1 n c1 st k14 4 arg kA g4 m c4 ce kE 0 0 0) := HB.out.on (al1_b _ _)
    have HDa : Hid (Dk w (wL.alloc (.cells #[.int .i64 Y] 3)) kd (pc + 1) g3 r c3 (st.take r) k13 g1 g4) := HD.out.on (al1_b _ _)
    have HRD : Hid (Rd (wL.alloc (.cells #[.int .i64 Y] 3)) (some ⟨wL.heap.size, 0, none⟩) [Y]) := rd_one _ _
    have hszW : w.heap.size ≤ (wL.alloc (.cells #[.int .i64 Y] 3)).heap.size := by have := HBa.out.six.lt; omega
    go_wp2_with (at_builtin; refine listN rfl _ _ rfl w.heap.size g3 r c3 (st.take r) (some ⟨wL.heap.size, 0, none⟩) 1 1 [Y] rfl rfl HDa.out.own rfl (by simp) HRD.out (by omega) hszW ?_)
    intro g5 c5 w9 hown9 hgr9 hat9
    have HPUT : Hid (_ ∧ _ ∧ _) := Dk.put HBa.out HDa.out hown9 hgr9 (by simpa using hat9)
    have kz := row2_cells HPUT.out.1
    clear hown9 hgr9 hat9 HBa HDa HRD hszW kdd HB HD
    go_wp2_with fail
    go_meet
    exact ⟨g5, c5, HPUT.out.2.1, HPUT.out.2.2⟩
  case rest =>
  clear HB HD
  rename World => W9
  obtain ⟨g5, c5, HB, HD⟩ := hcut
  rename_i KK hKK
  refine hKK _ _ ?_
  exact specTail w pc (some ⟨gq, oq, none⟩) st n cp ad ce m ca f s t 4 arg T r U V ce (st.take r ++ [Y]) (pc + 1) 0 0 0 (r + 1) k13 k14 kd kA kE g1 c1 g5 c5 g4 c4 W9 _ _ _ _ _ _ _ _ _ _ _ _ _ _ _ _ _ _ _ _ _ _ _ _ _ _ _ _ _ _ _ _ _ _ _ _ _ _ _ _ _ _ _ _ _ _ _ _ _ _ _ _ _ _ _ _ _ _ _ _ _ _ _ _ _ _ _ _ _ _ _ _ _ _ _ _ _ _ _ _ _ _ _ _ _ _ _ _ _ _ _ _ _ _ _ _ _ _ _ _ _ _ _ _ _ _ _ _ _ _ _ _ _ _ _ _ _ _ _ _ _ _ _ _ _ _ _ _ _ _ _ _ _ _ _ _ _ _ _ _ _ _ _ _ _ _ _ _ _ _ _ _ _ _ _ _ _ _ _ _ _ _ _ _ _ _ _ _ _ _ _ _ _ _ _ _ _ _ _ _ _ _ _ _ _ _ _ _ _ _ _ _ _ _ _ _ _ _ _ _ _ _ _ _ _ _ _ _ _ _ _ _ _ _ _ _ _ _ _ _ _ _ _ _ _ _ _ _ _ _ _ _ _ _ _ _ _ _ _ _ _ _ _ _ _ _ _ _ _ _ _ _ _ _ _ _ _ _ _ _ _ _ _ _ _ _ _ _ _ _ hnr hru hov h61 HB.out HD.out

set_option maxRecDepth 100000 in
set_option maxHeartbeats 4000000 in
theorem swSum5 (w : World) (pc : Int) (gq oq : Nat) (st : List Int) (n cp : Nat) (ad : Addr) (ce : List Int) (m ca : Nat) (f s t arg : Int) (T r : Nat) (U V : Int) (hrb : r ≤ 1048576) (hnr : IntKind.i64.wrap ((n : Int) - T) = (r : Int)) (hru : IntKind.i64.wrap ((r : Int) + U) = V) (x y : Int) (r1 : Nat) (hky : w.cell? ⟨gq, oq + r, none⟩ = some (.int .i64 y)) (hkx : w.cell? ⟨gq, oq + r1, none⟩ = some (.int .i64 x)) (hri : r < n) (hri2 : (r : Int) < (n : Int)) (hri3 : r1 < n) (hri4 : (r1 : Int) < (n : Int)) (hn1 : IntKind.i64.wrap ((n : Int) - 1) = (r1 : Int)) (hn2 : IntKind.i64.wrap ((n : Int) - 2) = (r : Int)) (Y : Int) (hwx : isW x) (hwy : isW y) (hY : sumV 5 y x = Y) (hYB : sumB 5 x = true) (hov : ¬ (8 < V)) (h61 : ¬ (60 < pc + 1)) : SwOk w pc (some ⟨gq, oq, none⟩) st n cp ad ce m ca f s t 5 arg T r U (StepPost w m (okR (pc + 1) (st.take r ++ [Y]) ce) (r + 1)) := by
  have HKX : Hid (_ = _) := hkx
  clear hkx
  have HKY : Hid (_ = _) := hky
  clear hky
  have HY : Hid (sumV 5 y x = Y) := hY
  have HYB : Hid (sumB 5 x = true) := hYB
  have HWX : Hid (isW x) := hwx
  have HWY : Hid (isW y) := hwy
  clear hY hYB hwx hwy
  intro k13 k14 kd kA kE g1 c1 g3 c3 g4 c4 W8 s0 s1 s2 s3 s6 s9 u21 u22 u23 u24 u25 u26 u27 u28 u29 u30 u31 u32 u33 u34 u35 u36 u37 u38 u39 u40 u41 u42 u43 u44 u45 u46 u47 u48 u49 u50 u51 u52 u53 u54 u55 u56 u57 u58 u59 u60 u61 u62 u63 u64 u65 u66 u67 u68 u69 u70 u71 u72 u73 u74 u75 u76 u77 u78 u79 u80 u81 u82 u83 u84 u85 u86 u87 u88 u89 u90 u91 u92 u93 u94 u95 u96 u97 u98 u99 u100 u101 u102 u103 u104 u105 u106 u107 u108 u109 u110 u111 u112 u113 u114 u115 u116 u117 u118 u119 u120 u121 u122 u123 u124 u125 u126 u127 u128 u129 u130 u131 u132 u133 u134 u135 u136 u137 u138 u139 u140 u141 u142 u143 u144 u145 u146 u147 u148 u149 u150 u151 u152 u153 u154 u155 u156 u157 u158 u159 u160 u161 u162 u163 u164 u165 u166 u167 u168 u169 u170 u171 u172 u173 u174 u175 u176 u177 u178 u179 u180 u181 u182 u183 u184 u185 u186 u187 u188 u189 u190 u191 u192 u193 u194 u195 u196 u197 u198 u199 u200 u201 u202 u203 u204 u205 u206 u207 u208 u209 u210 u211 u212 u213 u214 u215 u216 u217 u218 u219 u220 u221 u222 u223 u224 u225 u226 u227 u228 u229 u230 u231 u232 u233 u234 u235 u236 u237 u238 u239 u240 u241 u242 u243 u244 u245 u246 u247 u248 u249 u250 u251 u252 u253 u254 u255 u256 u257 u258 u259 u260 u261 u262 u263 u264 u265 u266 u267 u268 u269 u270 u271 u272 u273 u274 u275 u276 u277 u278 u279 u280 u281 u282 u283 u284 hB hD
  have HB : Hid (Bk w W8 pc (.slice (some ⟨gq, oq, none⟩) n cp) (.slice (some ad) m ca) f s k13 g1 n c1 st k14 5 arg kA g4 m c4 ce kE 0 0 0) := hB
  have HD : Hid (Dk w W8 kd (pc + 1) g3 r c3 (st.take r) k13 g1 g4) := hD
  clear hB hD
  unfold WpSw
  change Code.wp Try.prog (Code.seq (Code.seq (Code.region 14 _ _) (Code.block 0 _)) _) _ _ _
  have ki := row2_cells HB.out.ins
  go_upto_block 0 with fail
  go_cut [] (fun wc => ∃ (g5 c5 : Nat), Hid (Bk w wc pc (.slice (some ⟨gq, oq, none⟩) n cp) (.slice (some ad) m ca) f s k13 g1 n c1 st k14 5 arg kA g4 m c4 ce kE 0 0 0) ∧ Hid (Dk w wc kd (pc + 1) g5 (r + 1) c5 (st.take r ++ [Y]) k13 g1 g4))
  case first =>
    go_wp2_with fail
    clear ki
    have kqx := bel_cell HKX.out HB.out.six.bel (Nat.le_refl _)
    have kqy := bel_cell HKY.out HB.out.six.bel (Nat.le_refl _)
    have HQ : Hid (W8.drew.cell? ⟨k14, 0, none⟩ = some (.int .i64 5) ∧ W8.drew.cell? ⟨w.heap.size, 1, none⟩ = some (.slice (some ⟨gq, oq, none⟩) n cp) ∧ W8.drew.cell? ⟨gq, oq + r, none⟩ = some (.int .i64 y) ∧ W8.drew.cell? ⟨gq, oq + r1, none⟩ = some (.int .i64 x) ∧ W8.drew.cell? ⟨k14, 1, none⟩ = some (.int .i64 arg) ∧ W8.drew.cell? ⟨k14, 1, none⟩ = some (.int .i64 arg) ∧ Below W8.heap.size W8 W8.drew) := ⟨(row2_cells HB.out.ins).1, (row2_cells HB.out.six.1).2.1, kqy, kqx, (row2_cells HB.out.ins).2.1, (row2_cells HB.out.ins).2.1, (Below.refl _ _).drew⟩
    clear kqx kqy
    go_region_held3 (fun w' => w'.cell? ⟨k14, 0, none⟩ = some (.int .i64 5) ∧ w'.cell? ⟨w.heap.size, 1, none⟩ = some (.slice (some ⟨gq, oq, none⟩) n cp) ∧ w'.cell? ⟨gq, oq + r, none⟩ = some (.int .i64 y) ∧ w'.cell? ⟨gq, oq + r1, none⟩ = some (.int .i64 x) ∧ w'.cell? ⟨k14, 1, none⟩ = some (.int .i64 arg) ∧ w'.cell? ⟨k14, 1, none⟩ = some (.int .i64 arg) ∧ Below W8.heap.size W8 w') (first | (with_reducible exact HQ.out) | (with_reducible exact HQz.out) | (with_reducible exact q6_on (by assumption) (by assumption))) (first | (go_at_call 59; refine (sumS' 5 y x Y true (by decide) HWY.out HWX.out HY.out HYB.out _).mono ?_; rintro e wL ⟨rfl, hbL⟩; have HQz : Hid (_ ∧ _ ∧ _ ∧ _ ∧ _ ∧ _ ∧ _) := hid (by with_reducible exact q6_on hbL (by assumption))))
    rename_i HH
    clear HH
    have HB9 : Hid (Bk w wL pc (.slice (some ⟨gq, oq, none⟩) n cp) (.slice (some ad) m ca) f s k13 g1 n c1 st k14 5 arg kA g4 m c4 ce kE 0 0 0) := HB.out.on HQz.out.2.2.2.2.2.2
    have HD9 : Hid (Dk w wL kd (pc + 1) g3 r c3 (st.take r) k13 g1 g4) := HD.out.on HQz.out.2.2.2.2.2.2
    clear HQ HQz HB HD hbL
    have HB := HB9
    have HD := HD9
    clear HB9 HD9
    have kdd := row2_cells HD.out.box
    have HBa : Hid (Bk w (wL.alloc (.cells #[.int .i64 Y] 3)) pc (.slice (some ⟨gq, oq, none⟩) n cp) (.slice (some ad) m ca) f s k13 g1 n c1 st k14 5 arg kA g4 m c4 ce kE 0 0 0) := HB.out.on (al1_b _ _)
    have HDa : Hid (Dk w (wL.alloc (.cells #[.int .i64 Y] 3)) kd (pc + 1) g3 r c3 (st.take r) k13 g1 g4) := HD.out.on (al1_b _ _)
    have HRD : Hid (Rd (wL.alloc (.cells #[.int .i64 Y] 3)) (some ⟨wL.heap.size, 0, none⟩) [Y]) := rd_one _ _
    have hszW : w.heap.size ≤ (wL.alloc (.cells #[.int .i64 Y] 3)).heap.size := by have := HBa.out.six.lt; omega
    go_wp2_with (at_builtin; refine listN rfl _ _ rfl w.heap.size g3 r c3 (st.take r) (some ⟨wL.heap.size, 0, none⟩) 1 1 [Y] rfl rfl HDa.out.own rfl (by simp) HRD.out (by omega) hszW ?_)
    intro g5 c5 w9 hown9 hgr9 hat9
    have HPUT : Hid (_ ∧ _ ∧ _) := Dk.put HBa.out HDa.out hown9 hgr9 (by simpa using hat9)
    have kz := row2_cells HPUT.out.1
    clear hown9 hgr9 hat9 HBa HDa HRD hszW kdd HB HD
    go_wp2_with fail
    go_meet
    exact ⟨g5, c5, HPUT.out.2.1, HPUT.out.2.2⟩
  case rest =>
  clear HB HD
  rename World => W9
  obtain ⟨g5, c5, HB, HD⟩ := hcut
  rename_i KK hKK
  refine hKK _ _ ?_
  exact specTail w pc (some ⟨gq, oq, none⟩) st n cp ad ce m ca f s t 5 arg T r U V ce (st.take r ++ [Y]) (pc + 1) 0 0 0 (r + 1) k13 k14 kd kA kE g1 c1 g5 c5 g4 c4 W9 _ _ _ _ _ _ _ _ _ _ _ _ _ _ _ _ _ _ _ _ _ _ _ _ _ _ _ _ _ _ _ _ _ _ _ _ _ _ _ _ _ _ _ _ _ _ _ _ _ _ _ _ _ _ _ _ _ _ _ _ _ _ _ _ _ _ _ _ _ _ _ _ _ _ _ _ _ _ _ _ _ _ _ _ _ _ _ _ _ _ _ _ _ _ _ _ _ _ _ _ _ _ _ _ _ _ _ _ _ _ _ _ _ _ _ _ _ _ _ _ _ _ _ _ _ _ _ _ _ _ _ _ _ _ _ _ _ _ _ _ _ _ _ _ _ _ _ _ _ _ _ _ _ _ _ _ _ _ _ _ _ _ _ _ _ _ _ _ _ _ _ _ _ _ _ _ _ _ _ _ _ _ _ _ _ _ _ _ _ _ _ _ _ _ _ _ _ _ _ _ _ _ _ _ _ _ _ _ _ _ _ _ _ _ _ _ _ _ _ _ _ _ _ _ _ _ _ _ _ _ _ _ _ _ _ _ _ _ _ _ _ _ _ _ _ _ _ _ _ _ _ _ _ _ _ _ _ _ _ _ _ _ _ _ _ _ _ _ _ _ hnr hru hov h61 HB.out HD.out

set_option maxRecDepth 100000 in
set_option maxHeartbeats 4000000 in
theorem swSum6 (w : World) (pc : Int) (gq oq : Nat) (st : List Int) (n cp : Nat) (ad : Addr) (ce : List Int) (m ca : Nat) (f s t arg : Int) (T r : Nat) (U V : Int) (hrb : r ≤ 1048576) (hnr : IntKind.i64.wrap ((n : Int) - T) = (r : Int)) (hru : IntKind.i64.wrap ((r : Int) + U) = V) (x y : Int) (r1 : Nat) (hky : w.cell? ⟨gq, oq + r, none⟩ = some (.int .i64 y)) (hkx : w.cell? ⟨gq, oq + r1, none⟩ = some (.int .i64 x)) (hri : r < n) (hri2 : (r : Int) < (n : Int)) (hri3 : r1 < n) (hri4 : (r1 : Int) < (n : Int)) (hn1 : IntKind.i64.wrap ((n : Int) - 1) = (r1 : Int)) (hn2 : IntKind.i64.wrap ((n : Int) - 2) = (r : Int)) (Y : Int) (hwx : isW x) (hwy : isW y) (hY : sumV 6 y x = Y) (hYB : sumB 6 x = true) (hov : ¬ (8 < V)) (h61 : ¬ (60 < pc + 1)) : SwOk w pc (some ⟨gq, oq, none⟩) st n cp ad ce m ca f s t 6 arg T r U (StepPost w m (okR (pc + 1) (st.take r ++ [Y]) ce) (r + 1)) := by
  have HKX : Hid (_ = _) := hkx
  clear hkx
  have HKY : Hid (_ = _) := hky
  clear hky
  have HY : Hid (sumV 6 y x = Y) := hY
  have HYB : Hid (sumB 6 x = true) := hYB
  have HWX : Hid (isW x) := hwx
  have HWY : Hid (isW y) := hwy
  clear hY hYB hwx hwy
  intro k13 k14 kd kA kE g1 c1 g3 c3 g4 c4 W8 s0 s1 s2 s3 s6 s9 u21 u22 u23 u24 u25 u26 u27 u28 u29 u30 u31 u32 u33 u34 u35 u36 u37 u38 u39 u40 u41 u42 u43 u44 u45 u46 u47 u48 u49 u50 u51 u52 u53 u54 u55 u56 u57 u58 u59 u60 u61 u62 u63 u64 u65 u66 u67 u68 u69 u70 u71 u72 u73 u74 u75 u76 u77 u78 u79 u80 u81 u82 u83 u84 u85 u86 u87 u88 u89 u90 u91 u92 u93 u94 u95 u96 u97 u98 u99 u100 u101 u102 u103 u104 u105 u106 u107 u108 u109 u110 u111 u112 u113 u114 u115 u116 u117 u118 u119 u120 u121 u122 u123 u124 u125 u126 u127 u128 u129 u130 u131 u132 u133 u134 u135 u136 u137 u138 u139 u140 u141 u142 u143 u144 u145 u146 u147 u148 u149 u150 u151 u152 u153 u154 u155 u156 u157 u158 u159 u160 u161 u162 u163 u164 u165 u166 u167 u168 u169 u170 u171 u172 u173 u174 u175 u176 u177 u178 u179 u180 u181 u182 u183 u184 u185 u186 u187 u188 u189 u190 u191 u192 u193 u194 u195 u196 u197 u198 u199 u200 u201 u202 u203 u204 u205 u206 u207 u208 u209 u210 u211 u212 u213 u214 u215 u216 u217 u218 u219 u220 u221 u222 u223 u224 u225 u226 u227 u228 u229 u230 u231 u232 u233 u234 u235 u236 u237 u238 u239 u240 u241 u242 u243 u244 u245 u246 u247 u248 u249 u250 u251 u252 u253 u254 u255 u256 u257 u258 u259 u260 u261 u262 u263 u264 u265 u266 u267 u268 u269 u270 u271 u272 u273 u274 u275 u276 u277 u278 u279 u280 u281 u282 u283 u284 hB hD
  have HB : Hid (Bk w W8 pc (.slice (some ⟨gq, oq, none⟩) n cp) (.slice (some ad) m ca) f s k13 g1 n c1 st k14 6 arg kA g4 m c4 ce kE 0 0 0) := hB
  have HD : Hid (Dk w W8 kd (pc + 1) g3 r c3 (st.take r) k13 g1 g4) := hD
  clear hB hD
  unfold WpSw
  change Code.wp Try.prog (Code.seq (Code.seq (Code.region 14 _ _) (Code.block 0 _)) _) _ _ _
  have ki := row2_cells HB.out.ins
  go_upto_block 0 with fail
  go_cut [] (fun wc => ∃ (g5 c5 : Nat), Hid (Bk w wc pc (.slice (some ⟨gq, oq, none⟩) n cp) (.slice (some ad) m ca) f s k13 g1 n c1 st k14 6 arg kA g4 m c4 ce kE 0 0 0) ∧ Hid (Dk w wc kd (pc + 1) g5 (r + 1) c5 (st.take r ++ [Y]) k13 g1 g4))
  case first =>
    go_wp2_with fail
    clear ki
    have kqx := bel_cell HKX.out HB.out.six.bel (Nat.le_refl _)
    have kqy := bel_cell HKY.out HB.out.six.bel (Nat.le_refl _)
    have HQ : Hid (W8.drew.cell? ⟨k14, 0, none⟩ = some (.int .i64 6) ∧ W8.drew.cell? ⟨w.heap.size, 1, none⟩ = some (.slice (some ⟨gq, oq, none⟩) n cp) ∧ W8.drew.cell? ⟨gq, oq + r, none⟩ = some (.int .i64 y) ∧ W8.drew.cell? ⟨gq, oq + r1, none⟩ = some (.int .i64 x) ∧ W8.drew.cell? ⟨k14, 1, none⟩ = some (.int .i64 arg) ∧ W8.drew.cell? ⟨k14, 1, none⟩ = some (.int .i64 arg) ∧ Below W8.heap.size W8 W8.drew) := ⟨(row2_cells HB.out.ins).1, (row2_cells HB.out.six.1).2.1, kqy, kqx, (row2_cells HB.out.ins).2.1, (row2_cells HB.out.ins).2.1, (Below.refl _ _).drew⟩
    clear kqx kqy
    go_region_held3 (fun w' => w'.cell? ⟨k14, 0, none⟩ = some (.int .i64 6) ∧ w'.cell? ⟨w.heap.size, 1, none⟩ = some (.slice (some ⟨gq, oq, none⟩) n cp) ∧ w'.cell? ⟨gq, oq + r, none⟩ = some (.int .i64 y) ∧ w'.cell? ⟨gq, oq + r1, none⟩ = some (.int .i64 x) ∧ w'.cell? ⟨k14, 1, none⟩ = some (.int .i64 arg) ∧ w'.cell? ⟨k14, 1, none⟩ = some (.int .i64 arg) ∧ Below W8.heap.size W8 w') (first | (with_reducible exact HQ.out) | (with_reducible exact HQz.out) | (with_reducible exact q6_on (by assumption) (by assumption))) (first | (go_at_call 59; refine (sumS' 6 y x Y true (by decide) HWY.out HWX.out HY.out HYB.out _).mono ?_; rintro e wL ⟨rfl, hbL⟩; have HQz : Hid (_ ∧ _ ∧ _ ∧ _ ∧ _ ∧ _ ∧ _) := hid (by with_reducible exact q6_on hbL (by assumption))))
    rename_i HH
    clear HH
    have HB9 : Hid (Bk w wL pc (.slice (some ⟨gq, oq, none⟩) n cp) (.slice (some ad) m ca) f s k13 g1 n c1 st k14 6 arg kA g4 m c4 ce kE 0 0 0) := HB.out.on HQz.out.2.2.2.2.2.2
    have HD9 : Hid (Dk w wL kd (pc + 1) g3 r c3 (st.take r) k13 g1 g4) := HD.out.on HQz.out.2.2.2.2.2.2
    clear HQ HQz HB HD hbL
    have HB := HB9
    have HD := HD9
    clear HB9 HD9
    have kdd := row2_cells HD.out.box
    have HBa : Hid (Bk w (wL.alloc (.cells #[.int .i64 Y] 3)) pc (.slice (some ⟨gq, oq, none⟩) n cp) (.slice (some ad) m ca) f s k13 g1 n c1 st k14 6 arg kA g4 m c4 ce kE 0 0 0) := HB.out.on (al1_b _ _)
    have HDa : Hid (Dk w (wL.alloc (.cells #[.int .i64 Y] 3)) kd (pc + 1) g3 r c3 (st.take r) k13 g1 g4) := HD.out.on (al1_b _ _)
    have HRD : Hid (Rd (wL.alloc (.cells #[.int .i64 Y] 3)) (some ⟨wL.heap.size, 0, none⟩) [Y]) := rd_one _ _
    have hszW : w.heap.size ≤ (wL.alloc (.cells #[.int .i64 Y] 3)).heap.size := by have := HBa.out.six.lt; omega
    go_wp2_with (at_builtin; refine listN rfl _ _ rfl w.heap.size g3 r c3 (st.take r) (some ⟨wL.heap.size, 0, none⟩) 1 1 [Y] rfl rfl HDa.out.own rfl (by simp) HRD.out (by omega) hszW ?_)
    intro g5 c5 w9 hown9 hgr9 hat9
    have HPUT : Hid (_ ∧ _ ∧ _) := Dk.put HBa.out HDa.out hown9 hgr9 (by simpa using hat9)
    have kz := row2_cells HPUT.out.1
    clear hown9 hgr9 hat9 HBa HDa HRD hszW kdd HB HD
    go_wp2_with fail
    go_meet
    exact ⟨g5, c5, HPUT.out.2.1, HPUT.out.2.2⟩
  case rest =>
  clear HB HD
  rename World => W9
  obtain ⟨g5, c5, HB, HD⟩ := hcut
  rename_i KK hKK
  refine hKK _ _ ?_
  exact specTail w pc (some ⟨gq, oq, none⟩) st n cp ad ce m ca f s t 6 arg T r U V ce (st.take r ++ [Y]) (pc + 1) 0 0 0 (r + 1) k13 k14 kd kA kE g1 c1 g5 c5 g4 c4 W9 _ _ _ _ _ _ _ _ _ _ _ _ _ _ _ _ _ _ _ _ _ _ _ _ _ _ _ _ _ _ _ _ _ _ _ _ _ _ _ _ _ _ _ _ _ _ _ _ _ _ _ _ _ _ _ _ _ _ _ _ _ _ _ _ _ _ _ _ _ _ _ _ _ _ _ _ _ _ _ _ _ _ _ _ _ _ _ _ _ _ _ _ _ _ _ _ _ _ _ _ _ _ _ _ _ _ _ _ _ _ _ _ _ _ _ _ _ _ _ _ _ _ _ _ _ _ _ _ _ _ _ _ _ _ _ _ _ _ _ _ _ _ _ _ _ _ _ _ _ _ _ _ _ _ _ _ _ _ _ _ _ _ _ _ _ _ _ _ _ _ _ _ _ _ _ _ _ _ _ _ _ _ _ _ _ _ _ _ _ _ _ _ _ _ _ _ _ _ _ _ _ _ _ _ _ _ _ _ _ _ _ _ _ _ _ _ _ _ _ _ _ _ _ _ _ _ _ _ _ _ _ _ _ _ _ _ _ _ _ _ _ _ _ _ _ _ _ _ _ _ _ _ _ _ _ _ _ _ _ _ _ _ _ _ _ _ _ _ _ _ hnr hru hov h61 HB.out HD.out

set_option maxRecDepth 100000 in
set_option maxHeartbeats 4000000 in
theorem swSum7 (w : World) (pc : Int) (gq oq : Nat) (st : List Int) (n cp : Nat) (ad : Addr) (ce : List Int) (m ca : Nat) (f s t arg : Int) (T r : Nat) (U V : Int) (hrb : r ≤ 1048576) (hnr : IntKind.i64.wrap ((n : Int) - T) = (r : Int)) (hru : IntKind.i64.wrap ((r : Int) + U) = V) (x y : Int) (r1 : Nat) (hky : w.cell? ⟨gq, oq + r, none⟩ = some (.int .i64 y)) (hkx : w.cell? ⟨gq, oq + r1, none⟩ = some (.int .i64 x)) (hri : r < n) (hri2 : (r : Int) < (n : Int)) (hri3 : r1 < n) (hri4 : (r1 : Int) < (n : Int)) (hn1 : IntKind.i64.wrap ((n : Int) - 1) = (r1 : Int)) (hn2 : IntKind.i64.wrap ((n : Int) - 2) = (r : Int)) (Y : Int) (hwx : isW x) (hwy : isW y) (hY : sumV 7 y x = Y) (hYB : sumB 7 x = true) (hov : ¬ (8 < V)) (h61 : ¬ (60 < pc + 1)) : SwOk w pc (some ⟨gq, oq, none⟩) st n cp ad ce m ca f s t 7 arg T r U (StepPost w m (okR (pc + 1) (st.take r ++ [Y]) ce) (r + 1)) := by
  have HKX : Hid (_ = _) := hkx
  clear hkx
  have HKY : Hid (_ = _) := hky
  clear hky
  have HY : Hid (sumV 7 y x = Y) := hY
  have HYB : Hid (sumB 7 x = true) := hYB
  have HWX : Hid (isW x) := hwx
  have HWY : Hid (isW y) := hwy
  clear hY hYB hwx hwy
  intro k13 k14 kd kA kE g1 c1 g3 c3 g4 c4 W8 s0 s1 s2 s3 s6 s9 u21 u22 u23 u24 u25 u26 u27 u28 u29 u30 u31 u32 u33 u34 u35 u36 u37 u38 u39 u40 u41 u42 u43 u44 u45 u46 u47 u48 u49 u50 u51 u52 u53 u54 u55 u56 u57 u58 u59 u60 u61 u62 u63 u64 u65 u66 u67 u68 u69 u70 u71 u72 u73 u74 u75 u76 u77 u78 u79 u80 u81 u82 u83 u84 u85 u86 u87 u88 u89 u90 u91 u92 u93 u94 u95 u96 u97 u98 u99 u100 u101 u102 u103 u104 u105 u106 u107 u108 u109 u110 u111 u112 u113 u114 u115 u116 u117 u118 u119 u120 u121 u122 u123 u124 u125 u126 u127 u128 u129 u130 u131 u132 u133 u134 u135 u136 u137 u138 u139 u140 u141 u142 u143 u144 u145 u146 u147 u148 u149 u150 u151 u152 u153 u154 u155 u156 u157 u158 u159 u160 u161 u162 u163 u164 u165 u166 u167 u168 u169 u170 u171 u172 u173 u174 u175 u176 u177 u178 u179 u180 u181 u182 u183 u184 u185 u186 u187 u188 u189 u190 u191 u192 u193 u194 u195 u196 u197 u198 u199 u200 u201 u202 u203 u204 u205 u206 u207 u208 u209 u210 u211 u212 u213 u214 u215 u216 u217 u218 u219 u220 u221 u222 u223 u224 u225 u226 u227 u228 u229 u230 u231 u232 u233 u234 u235 u236 u237 u238 u239 u240 u241 u242 u243 u244 u245 u246 u247 u248 u249 u250 u251 u252 u253 u254 u255 u256 u257 u258 u259 u260 u261 u262 u263 u264 u265 u266 u267 u268 u269 u270 u271 u272 u273 u274 u275 u276 u277 u278 u279 u280 u281 u282 u283 u284 hB hD
  have HB : Hid (Bk w W8 pc (.slice (some ⟨gq, oq, none⟩) n cp) (.slice (some ad) m ca) f s k13 g1 n c1 st k14 7 arg kA g4 m c4 ce kE 0 0 0) := hB
  have HD : Hid (Dk w W8 kd (pc + 1) g3 r c3 (st.take r) k13 g1 g4) := hD
  clear hB hD
  unfold WpSw
  change Code.wp Try.prog (Code.seq (Code.seq (Code.region 14 _ _) (Code.block 0 _)) _) _ _ _
  have ki := row2_cells HB.out.ins
  go_upto_block 0 with fail
  go_cut [] (fun wc => ∃ (g5 c5 : Nat), Hid (Bk w wc pc (.slice (some ⟨gq, oq, none⟩) n cp) (.slice (some ad) m ca) f s k13 g1 n c1 st k14 7 arg kA g4 m c4 ce kE 0 0 0) ∧ Hid (Dk w wc kd (pc + 1) g5 (r + 1) c5 (st.take r ++ [Y]) k13 g1 g4))
  case first =>
    go_wp2_with fail
    clear ki
    have kqx := bel_cell HKX.out HB.out.six.bel (Nat.le_refl _)
    have kqy := bel_cell HKY.out HB.out.six.bel (Nat.le_refl _)
    have HQ : Hid (W8.drew.cell? ⟨k14, 0, none⟩ = some (.int .i64 7) ∧ W8.drew.cell? ⟨w.heap.size, 1, none⟩ = some (.slice (some ⟨gq, oq, none⟩) n cp) ∧ W8.drew.cell? ⟨gq, oq + r, none⟩ = some (.int .i64 y) ∧ W8.drew.cell? ⟨gq, oq + r1, none⟩ = some (.int .i64 x) ∧ W8.drew.cell? ⟨k14, 1, none⟩ = some (.int .i64 arg) ∧ W8.drew.cell? ⟨k14, 1, none⟩ = some (.int .i64 arg) ∧ Below W8.heap.size W8 W8.drew) := ⟨(row2_cells HB.out.ins).1, (row2_cells HB.out.six.1).2.1, kqy, kqx, (row2_cells HB.out.ins).2.1, (row2_cells HB.out.ins).2.1, (Below.refl _ _).drew⟩
    clear kqx kqy
    go_region_held3 (fun w' => w'.cell? ⟨k14, 0, none⟩ = some (.int .i64 7) ∧ w'.cell? ⟨w.heap.size, 1, none⟩ = some (.slice (some ⟨gq, oq, none⟩) n cp) ∧ w'.cell? ⟨gq, oq + r, none⟩ = some (.int .i64 y) ∧ w'.cell? ⟨gq, oq + r1, none⟩ = some (.int .i64 x) ∧ w'.cell? ⟨k14, 1, none⟩ = some (.int .i64 arg) ∧ w'.cell? ⟨k14, 1, none⟩ = some (.int .i64 arg) ∧ Below W8.heap.size W8 w') (first | (with_reducible exact HQ.out) | (with_reducible exact HQz.out) | (with_reducible exact q6_on (by assumption) (by assumption))) (first | (go_at_call 59; refine (sumS' 7 y x Y true (by decide) HWY.out HWX.out HY.out HYB.out _).mono ?_; rintro e wL ⟨rfl, hbL⟩; have HQz : Hid (_ ∧ _ ∧ _ ∧ _ ∧ _ ∧ _ ∧ _) := hid (by with_reducible exact q6_on hbL (by assumption))))
    rename_i HH
    clear HH
    have HB9 : Hid (Bk w wL pc (.slice (some ⟨gq, oq, none⟩) n cp) (.slice (some ad) m ca) f s k13 g1 n c1 st k14 7 arg kA g4 m c4 ce kE 0 0 0) := HB.out.on HQz.out.2.2.2.2.2.2
    have HD9 : Hid (Dk w wL kd (pc + 1) g3 r c3 (st.take r) k13 g1 g4) := HD.out.on HQz.out.2.2.2.2.2.2
    clear HQ HQz HB HD hbL
    have HB := HB9
    have HD := HD9
    clear HB9 HD9
    have kdd := row2_cells HD.out.box
    have HBa : Hid (Bk w (wL.alloc (.cells #[.int .i64 Y] 3)) pc (.slice (some ⟨gq, oq, none⟩) n cp) (.slice (some ad) m ca) f s k13 g1 n c1 st k14 7 arg kA g4 m c4 ce kE 0 0 0) := HB.out.on (al1_b _ _)
    have HDa : Hid (Dk w (wL.alloc (.cells #[.int .i64 Y] 3)) kd (pc + 1) g3 r c3 (st.take r) k13 g1 g4) := HD.out.on (al1_b _ _)
    have HRD : Hid (Rd (wL.alloc (.cells #[.int .i64 Y] 3)) (some ⟨wL.heap.size, 0, none⟩) [Y]) := rd_one _ _
    have hszW : w.heap.size ≤ (wL.alloc (.cells #[.int .i64 Y] 3)).heap.size := by have := HBa.out.six.lt; omega
    go_wp2_with (at_builtin; refine listN rfl _ _ rfl w.heap.size g3 r c3 (st.take r) (some ⟨wL.heap.size, 0, none⟩) 1 1 [Y] rfl rfl HDa.out.own rfl (by simp) HRD.out (by omega) hszW ?_)
    intro g5 c5 w9 hown9 hgr9 hat9
    have HPUT : Hid (_ ∧ _ ∧ _) := Dk.put HBa.out HDa.out hown9 hgr9 (by simpa using hat9)
    have kz := row2_cells HPUT.out.1
    clear hown9 hgr9 hat9 HBa HDa HRD hszW kdd HB HD
    go_wp2_with fail
    go_meet
    exact ⟨g5, c5, HPUT.out.2.1, HPUT.out.2.2⟩
  case rest =>
  clear HB HD
  rename World => W9
  obtain ⟨g5, c5, HB, HD⟩ := hcut
  rename_i KK hKK
  refine hKK _ _ ?_
  exact specTail w pc (some ⟨gq, oq, none⟩) st n cp ad ce m ca f s t 7 arg T r U V ce (st.take r ++ [Y]) (pc + 1) 0 0 0 (r + 1) k13 k14 kd kA kE g1 c1 g5 c5 g4 c4 W9 _ _ _ _ _ _ _ _ _ _ _ _ _ _ _ _ _ _ _ _ _ _ _ _ _ _ _ _ _ _ _ _ _ _ _ _ _ _ _ _ _ _ _ _ _ _ _ _ _ _ _ _ _ _ _ _ _ _ _ _ _ _ _ _ _ _ _ _ _ _ _ _ _ _ _ _ _ _ _ _ _ _ _ _ _ _ _ _ _ _ _ _ _ _ _ _ _ _ _ _ _ _ _ _ _ _ _ _ _ _ _ _ _ _ _ _ _ _ _ _ _ _ _ _ _ _ _ _ _ _ _ _ _ _ _ _ _ _ _ _ _ _ _ _ _ _ _ _ _ _ _ _ _ _ _ _ _ _ _ _ _ _ _ _ _ _ _ _ _ _ _ _ _ _ _ _ _ _ _ _ _ _ _ _ _ _ _ _ _ _ _ _ _ _ _ _ _ _ _ _ _ _ _ _ _ _ _ _ _ _ _ _ _ _ _ _ _ _ _ _ _ _ _ _ _ _ _ _ _ _ _ _ _ _ _ _ _ _ _ _ _ _ _ _ _ _ _ _ _ _ _ _ _ _ _ _ _ _ _ _ _ _ _ _ _ _ _ _ _ _ hnr hru hov h61 HB.out HD.out

set_option maxRecDepth 100000 in
set_option maxHeartbeats 4000000 in
theorem swSum8 (w : World) (pc : Int) (gq oq : Nat) (st : List Int) (n cp : Nat) (ad : Addr) (ce : List Int) (m ca : Nat) (f s t arg : Int) (T r : Nat) (U V : Int) (hrb : r ≤ 1048576) (hnr : IntKind.i64.wrap ((n : Int) - T) = (r : Int)) (hru : IntKind.i64.wrap ((r : Int) + U) = V) (x y : Int) (r1 : Nat) (hky : w.cell? ⟨gq, oq + r, none⟩ = some (.int .i64 y)) (hkx : w.cell? ⟨gq, oq + r1, none⟩ = some (.int .i64 x)) (hri : r < n) (hri2 : (r : Int) < (n : Int)) (hri3 : r1 < n) (hri4 : (r1 : Int) < (n : Int)) (hn1 : IntKind.i64.wrap ((n : Int) - 1) = (r1 : Int)) (hn2 : IntKind.i64.wrap ((n : Int) - 2) = (r : Int)) (Y : Int) (hwx : isW x) (hwy : isW y) (hY : sumV 8 y x = Y) (hYB : sumB 8 x = true) (hov : ¬ (8 < V)) (h61 : ¬ (60 < pc + 1)) : SwOk w pc (some ⟨gq, oq, none⟩) st n cp ad ce m ca f s t 8 arg T r U (StepPost w m (okR (pc + 1) (st.take r ++ [Y]) ce) (r + 1)) := by
  have HKX : Hid (_ = _) := hkx
  clear hkx
  have HKY : Hid (_ = _) := hky
  clear hky
  have HY : Hid (sumV 8 y x = Y) := hY
  have HYB : Hid (sumB 8 x = true) := hYB
  have HWX : Hid (isW x) := hwx
  have HWY : Hid (isW y) := hwy
  clear hY hYB hwx hwy
  intro k13 k14 kd kA kE g1 c1 g3 c3 g4 c4 W8 s0 s1 s2 s3 s6 s9 u21 u22 u23 u24 u25 u26 u27 u28 u29 u30 u31 u32 u33 u34 u35 u36 u37 u38 u39 u40 u41 u42 u43 u44 u45 u46 u47 u48 u49 u50 u51 u52 u53 u54 u55 u56 u57 u58 u59 u60 u61 u62 u63 u64 u65 u66 u67 u68 u69 u70 u71 u72 u73 u74 u75 u76 u77 u78 u79 u80 u81 u82 u83 u84 u85 u86 u87 u88 u89 u90 u91 u92 u93 u94 u95 u96 u97 u98 u99 u100 u101 u102 u103 u104 u105 u106 u107 u108 u109 u110 u111 u112 u113 u114 u115 u116 u117 u118 u119 u120 u121 u122 u123 u124 u125 u126 u127 u128 u129 u130 u131 u132 u133 u134 u135 u136 u137 u138 u139 u140 u141 u142 u143 u144 u145 u146 u147 u148 u149 u150 u151 u152 u153 u154 u155 u156 u157 u158 u159 u160 u161 u162 u163 u164 u165 u166 u167 u168 u169 u170 u171 u172 u173 u174 u175 u176 u177 u178 u179 u180 u181 u182 u183 u184 u185 u186 u187 u188 u189 u190 u191 u192 u193 u194 u195 u196 u197 u198 u199 u200 u201 u202 u203 u204 u205 u206 u207 u208 u209 u210 u211 u212 u213 u214 u215 u216 u217 u218 u219 u220 u221 u222 u223 u224 u225 u226 u227 u228 u229 u230 u231 u232 u233 u234 u235 u236 u237 u238 u239 u240 u241 u242 u243 u244 u245 u246 u247 u248 u249 u250 u251 u252 u253 u254 u255 u256 u257 u258 u259 u260 u261 u262 u263 u264 u265 u266 u267 u268 u269 u270 u271 u272 u273 u274 u275 u276 u277 u278 u279 u280 u281 u282 u283 u284 hB hD
  have HB : Hid (Bk w W8 pc (.slice (some ⟨gq, oq, none⟩) n cp) (.slice (some ad) m ca) f s k13 g1 n c1 st k14 8 arg kA g4 m c4 ce kE 0 0 0) := hB
  have HD : Hid (Dk w W8 kd (pc + 1) g3 r c3 (st.take r) k13 g1 g4) := hD
  clear hB hD
  unfold WpSw
  change Code.wp Try.prog (Code.seq (Code.seq (Code.region 14 _ _) (Code.block 0 _)) _) _ _ _
  have ki := row2_cells HB.out.ins
  go_upto_block 0 with fail
  go_cut [] (fun wc => ∃ (g5 c5 : Nat), Hid (Bk w wc pc (.slice (some ⟨gq, oq, none⟩) n cp) (.slice (some ad) m ca) f s k13 g1 n c1 st k14 8 arg kA g4 m c4 ce kE 0 0 0) ∧ Hid (Dk w wc kd (pc + 1) g5 (r + 1) c5 (st.take r ++ [Y]) k13 g1 g4))
  case first =>
    go_wp2_with fail
    clear ki
    have kqx := bel_cell HKX.out HB.out.six.bel (Nat.le_refl _)
    have kqy := bel_cell HKY.out HB.out.six.bel (Nat.le_refl _)
    have HQ : Hid (W8.drew.cell? ⟨k14, 0, none⟩ = some (.int .i64 8) ∧ W8.drew.cell? ⟨w.heap.size, 1, none⟩ = some (.slice (some ⟨gq, oq, none⟩) n cp) ∧ W8.drew.cell? ⟨gq, oq + r, none⟩ = some (.int .i64 y) ∧ W8.drew.cell? ⟨gq, oq + r1, none⟩ = some (.int .i64 x) ∧ W8.drew.cell? ⟨k14, 1, none⟩ = some (.int .i64 arg) ∧ W8.drew.cell? ⟨k14, 1, none⟩ = some (.int .i64 arg) ∧ Below W8.heap.size W8 W8.drew) := ⟨(row2_cells HB.out.ins).1, (row2_cells HB.out.six.1).2.1, kqy, kqx, (row2_cells HB.out.ins).2.1, (row2_cells HB.out.ins).2.1, (Below.refl _ _).drew⟩
    clear kqx kqy
    go_region_held3 (fun w' => w'.cell? ⟨k14, 0, none⟩ = some (.int .i64 8) ∧ w'.cell? ⟨w.heap.size, 1, none⟩ = some (.slice (some ⟨gq, oq, none⟩) n cp) ∧ w'.cell? ⟨gq, oq + r, none⟩ = some (.int .i64 y) ∧ w'.cell? ⟨gq, oq + r1, none⟩ = some (.int .i64 x) ∧ w'.cell? ⟨k14, 1, none⟩ = some (.int .i64 arg) ∧ w'.cell? ⟨k14, 1, none⟩ = some (.int .i64 arg) ∧ Below W8.heap.size W8 w') (first | (with_reducible exact HQ.out) | (with_reducible exact HQz.out) | (with_reducible exact q6_on (by assumption) (by assumption))) (first | (go_at_call 59; refine (sumS' 8 y x Y true (by decide) HWY.out HWX.out HY.out HYB.out _).mono ?_; rintro e wL ⟨rfl, hbL⟩; have HQz : Hid (_ ∧ _ ∧ _ ∧ _ ∧ _ ∧ _ ∧ _) := hid (by with_reducible exact q6_on hbL (by assumption))))
    rename_i HH
    clear HH
    have HB9 : Hid (Bk w wL pc (.slice (some ⟨gq, oq, none⟩) n cp) (.slice (some ad) m ca) f s k13 g1 n c1 st k14 8 arg kA g4 m c4 ce kE 0 0 0) := HB.out.on HQz.out.2.2.2.2.2.2
    have HD9 : Hid (Dk w wL kd (pc + 1) g3 r c3 (st.take r) k13 g1 g4) := HD.out.on HQz.out.2.2.2.2.2.2
    clear HQ HQz HB HD hbL
    have HB := HB9
    have HD := HD9
    clear HB9 HD9
    have kdd := row2_cells HD.out.box
    have HBa : Hid (Bk w (wL.alloc (.cells #[.int .i64 Y] 3)) pc (.slice (some ⟨gq, oq, none⟩) n cp) (.slice (some ad) m ca) f s k13 g1 n c1 st k14 8 arg kA g4 m c4 ce kE 0 0 0) := HB.out.on (al1_b _ _)
    have HDa : Hid (Dk w (wL.alloc (.cells #[.int .i64 Y] 3)) kd (pc + 1) g3 r c3 (st.take r) k13 g1 g4) := HD.out.on (al1_b _ _)
    have HRD : Hid (Rd (wL.alloc (.cells #[.int .i64 Y] 3)) (some ⟨wL.heap.size, 0, none⟩) [Y]) := rd_one _ _
    have hszW : w.heap.size ≤ (wL.alloc (.cells #[.int .i64 Y] 3)).heap.size := by have := HBa.out.six.lt; omega
    go_wp2_with (at_builtin; refine listN rfl _ _ rfl w.heap.size g3 r c3 (st.take r) (some ⟨wL.heap.size, 0, none⟩) 1 1 [Y] rfl rfl HDa.out.own rfl (by simp) HRD.out (by omega) hszW ?_)
    intro g5 c5 w9 hown9 hgr9 hat9
    have HPUT : Hid (_ ∧ _ ∧ _) := Dk.put HBa.out HDa.out hown9 hgr9 (by simpa using hat9)
    have kz := row2_cells HPUT.out.1
    clear hown9 hgr9 hat9 HBa HDa HRD hszW kdd HB HD
    go_wp2_with fail
    go_meet
    exact ⟨g5, c5, HPUT.out.2.1, HPUT.out.2.2⟩
  case rest =>
  clear HB HD
  rename World => W9
  obtain ⟨g5, c5, HB, HD⟩ := hcut
  rename_i KK hKK
  refine hKK _ _ ?_
  exact specTail w pc (some ⟨gq, oq, none⟩) st n cp ad ce m ca f s t 8 arg T r U V ce (st.take r ++ [Y]) (pc + 1) 0 0 0 (r + 1) k13 k14 kd kA kE g1 c1 g5 c5 g4 c4 W9 _ _ _ _ _ _ _ _ _ _ _ _ _ _ _ _ _ _ _ _ _ _ _ _ _ _ _ _ _ _ _ _ _ _ _ _ _ _ _ _ _ _ _ _ _ _ _ _ _ _ _ _ _ _ _ _ _ _ _ _ _ _ _ _ _ _ _ _ _ _ _ _ _ _ _ _ _ _ _ _ _ _ _ _ _ _ _ _ _ _ _ _ _ _ _ _ _ _ _ _ _ _ _ _ _ _ _ _ _ _ _ _ _ _ _ _ _ _ _ _ _ _ _ _ _ _ _ _ _ _ _ _ _ _ _ _ _ _ _ _ _ _ _ _ _ _ _ _ _ _ _ _ _ _ _ _ _ _ _ _ _ _ _ _ _ _ _ _ _ _ _ _ _ _ _ _ _ _ _ _ _ _ _ _ _ _ _ _ _ _ _ _ _ _ _ _ _ _ _ _ _ _ _ _ _ _ _ _ _ _ _ _ _ _ _ _ _ _ _ _ _ _ _ _ _ _ _ _ _ _ _ _ _ _ _ _ _ _ _ _ _ _ _ _ _ _ _ _ _ _ _ _ _ _ _ _ _ _ _ _ _ _ _ _ _ _ _ _ _ _ hnr hru hov h61 HB.out HD.out

set_option maxRecDepth 100000 in
set_option maxHeartbeats 4000000 in
theorem swSum7No (w : World) (pc : Int) (gq oq : Nat) (st : List Int) (n cp : Nat) (ad : Addr) (ce : List Int) (m ca : Nat) (f s t arg : Int) (T r : Nat) (U V : Int) (hrb : r ≤ 1048576) (hnr : IntKind.i64.wrap ((n : Int) - T) = (r : Int)) (hru : IntKind.i64.wrap ((r : Int) + U) = V) (x y : Int) (r1 : Nat) (hky : w.cell? ⟨gq, oq + r, none⟩ = some (.int .i64 y)) (hkx : w.cell? ⟨gq, oq + r1, none⟩ = some (.int .i64 x)) (hri : r < n) (hri2 : (r : Int) < (n : Int)) (hri3 : r1 < n) (hri4 : (r1 : Int) < (n : Int)) (hn1 : IntKind.i64.wrap ((n : Int) - 1) = (r1 : Int)) (hn2 : IntKind.i64.wrap ((n : Int) - 2) = (r : Int)) (Y : Int) (hwx : isW x) (hwy : isW y) (hY : sumV 7 y x = Y) (hYB : sumB 7 x = false) (hla : ce.length = m) (hm : m ≤ 1048576) (hra : Rd w (some ad) ce) : SwOk w pc (some ⟨gq, oq, none⟩) st n cp ad ce m ca f s t 7 arg T r U (StepPost w m (trapR pc st ce 3) (n)) := by
  have HKX : Hid (_ = _) := hkx
  clear hkx
  have HKY : Hid (_ = _) := hky
  clear hky
  have HY : Hid (sumV 7 y x = Y) := hY
  have HYB : Hid (sumB 7 x = false) := hYB
  have HWX : Hid (isW x) := hwx
  have HWY : Hid (isW y) := hwy
  clear hY hYB hwx hwy
  have HLA : Hid (ce.length = m) := hla
  have HRA : Hid (Rd w (some ad) ce) := hra
  clear hla hra
  intro k13 k14 kd kA kE g1 c1 g3 c3 g4 c4 W8 s0 s1 s2 s3 s6 s9 u21 u22 u23 u24 u25 u26 u27 u28 u29 u30 u31 u32 u33 u34 u35 u36 u37 u38 u39 u40 u41 u42 u43 u44 u45 u46 u47 u48 u49 u50 u51 u52 u53 u54 u55 u56 u57 u58 u59 u60 u61 u62 u63 u64 u65 u66 u67 u68 u69 u70 u71 u72 u73 u74 u75 u76 u77 u78 u79 u80 u81 u82 u83 u84 u85 u86 u87 u88 u89 u90 u91 u92 u93 u94 u95 u96 u97 u98 u99 u100 u101 u102 u103 u104 u105 u106 u107 u108 u109 u110 u111 u112 u113 u114 u115 u116 u117 u118 u119 u120 u121 u122 u123 u124 u125 u126 u127 u128 u129 u130 u131 u132 u133 u134 u135 u136 u137 u138 u139 u140 u141 u142 u143 u144 u145 u146 u147 u148 u149 u150 u151 u152 u153 u154 u155 u156 u157 u158 u159 u160 u161 u162 u163 u164 u165 u166 u167 u168 u169 u170 u171 u172 u173 u174 u175 u176 u177 u178 u179 u180 u181 u182 u183 u184 u185 u186 u187 u188 u189 u190 u191 u192 u193 u194 u195 u196 u197 u198 u199 u200 u201 u202 u203 u204 u205 u206 u207 u208 u209 u210 u211 u212 u213 u214 u215 u216 u217 u218 u219 u220 u221 u222 u223 u224 u225 u226 u227 u228 u229 u230 u231 u232 u233 u234 u235 u236 u237 u238 u239 u240 u241 u242 u243 u244 u245 u246 u247 u248 u249 u250 u251 u252 u253 u254 u255 u256 u257 u258 u259 u260 u261 u262 u263 u264 u265 u266 u267 u268 u269 u270 u271 u272 u273 u274 u275 u276 u277 u278 u279 u280 u281 u282 u283 u284 hB hD
  have HB : Hid (Bk w W8 pc (.slice (some ⟨gq, oq, none⟩) n cp) (.slice (some ad) m ca) f s k13 g1 n c1 st k14 7 arg kA g4 m c4 ce kE 0 0 0) := hB
  have HD : Hid (Dk w W8 kd (pc + 1) g3 r c3 (st.take r) k13 g1 g4) := hD
  clear hB hD
  unfold WpSw
  change Code.wp Try.prog (Code.seq (Code.seq (Code.region 14 _ _) (Code.block 0 _)) _) _ _ _
  have ki := row2_cells HB.out.ins
  go_upto_block 0 with fail
  go_wp2_with fail
  clear ki
  have kqx := bel_cell HKX.out HB.out.six.bel (Nat.le_refl _)
  have kqy := bel_cell HKY.out HB.out.six.bel (Nat.le_refl _)
  have HQ : Hid (W8.drew.cell? ⟨k14, 0, none⟩ = some (.int .i64 7) ∧ W8.drew.cell? ⟨w.heap.size, 1, none⟩ = some (.slice (some ⟨gq, oq, none⟩) n cp) ∧ W8.drew.cell? ⟨gq, oq + r, none⟩ = some (.int .i64 y) ∧ W8.drew.cell? ⟨gq, oq + r1, none⟩ = some (.int .i64 x) ∧ W8.drew.cell? ⟨k14, 1, none⟩ = some (.int .i64 arg) ∧ W8.drew.cell? ⟨k14, 1, none⟩ = some (.int .i64 arg) ∧ Below W8.heap.size W8 W8.drew) := ⟨(row2_cells HB.out.ins).1, (row2_cells HB.out.six.1).2.1, kqy, kqx, (row2_cells HB.out.ins).2.1, (row2_cells HB.out.ins).2.1, (Below.refl _ _).drew⟩
  clear kqx kqy
  go_region_held3 (fun w' => w'.cell? ⟨k14, 0, none⟩ = some (.int .i64 7) ∧ w'.cell? ⟨w.heap.size, 1, none⟩ = some (.slice (some ⟨gq, oq, none⟩) n cp) ∧ w'.cell? ⟨gq, oq + r, none⟩ = some (.int .i64 y) ∧ w'.cell? ⟨gq, oq + r1, none⟩ = some (.int .i64 x) ∧ w'.cell? ⟨k14, 1, none⟩ = some (.int .i64 arg) ∧ w'.cell? ⟨k14, 1, none⟩ = some (.int .i64 arg) ∧ Below W8.heap.size W8 w') (first | (with_reducible exact HQ.out) | (with_reducible exact HQz.out) | (with_reducible exact q6_on (by assumption) (by assumption))) (first | (go_at_call 59; refine (sumS' 7 y x Y false (by decide) HWY.out HWX.out HY.out HYB.out _).mono ?_; rintro e wL ⟨rfl, hbL⟩; have HQz : Hid (_ ∧ _ ∧ _ ∧ _ ∧ _ ∧ _ ∧ _) := hid (by with_reducible exact q6_on hbL (by assumption))))
  rename_i HH
  clear HH
  have HB9 : Hid (Bk w wL pc (.slice (some ⟨gq, oq, none⟩) n cp) (.slice (some ad) m ca) f s k13 g1 n c1 st k14 7 arg kA g4 m c4 ce kE 0 0 0) := HB.out.on HQz.out.2.2.2.2.2.2
  have HD9 : Hid (Dk w wL kd (pc + 1) g3 r c3 (st.take r) k13 g1 g4) := HD.out.on HQz.out.2.2.2.2.2.2
  clear HQ HQz HB HD hbL
  have HB := HB9
  have HD := HD9
  clear HB9 HD9
  go_wp2_with fail
  have HX : Hid (Six w wL pc (.slice (some ⟨gq, oq, none⟩) n cp) (.slice (some ad) m ca) f s) := HB.out.six
  have HSm : Hid (wL.heap[k13]? = _) := HB.out.same
  have HOm : Hid (OwnN wL w.heap.size g1 n c1 st) := HB.out.own1
  have HK13 : Hid (w.heap.size + 6 ≤ k13) := HB.out.num.1
  have HG1 : Hid (w.heap.size + 6 ≤ g1) := HB.out.num.2.2.2.2.1
  clear HB HD
  have k3 : w.heap.size + 3 ≤ w.heap.size + 1 + 1 + 1 := by omega
  have k4 : w.heap.size + 3 ≤ w.heap.size + 1 + 1 + 1 + 1 := by omega
  have k5 : w.heap.size + 3 ≤ w.heap.size + 1 + 1 + 1 + 1 + 1 := by omega
  have n3 : k13 ≠ w.heap.size + 1 + 1 + 1 := by have := HK13.out; omega
  have n4 : k13 ≠ w.heap.size + 1 + 1 + 1 + 1 := by have := HK13.out; omega
  have n5 : k13 ≠ w.heap.size + 1 + 1 + 1 + 1 + 1 := by have := HK13.out; omega
  have HQ : Hid (wL.drew.cell? ⟨k13, 0, none⟩ = some (.int .i64 pc) ∧ wL.drew.cell? ⟨k13, 1, none⟩ = some (.slice (some ⟨g1, 0, none⟩) n c1) ∧ wL.drew.cell? ⟨w.heap.size + 1, 0, none⟩ = some (.slice (some ad) m ca) ∧ Below w.heap.size w wL.drew) := ⟨(row2_cells HSm.out).1, (row2_cells HSm.out).2.1, (row1_cells HX.out.2.1).1, HX.out.bel.drew⟩
  have hltX := HX.out.lt
  go_region_held3 (fun w' => w'.cell? ⟨k13, 0, none⟩ = some (.int .i64 pc) ∧ w'.cell? ⟨k13, 1, none⟩ = some (.slice (some ⟨g1, 0, none⟩) n c1) ∧ w'.cell? ⟨w.heap.size + 1, 0, none⟩ = some (.slice (some ad) m ca) ∧ Below w.heap.size w w') (first | (with_reducible exact HQ.out) | (with_reducible exact HQz.out) | (with_reducible exact t3_set k3 n3 (t3_set k3 n3 (by assumption))) | (with_reducible exact t3_set k4 n4 (by assumption)) | (with_reducible exact t3_set k5 n5 (t3_set k5 n5 (t3_set k5 n5 (t3_set k5 n5 (by assumption))))) | (with_reducible exact t3_on (by assumption) (by assumption))) (first | (go_at_call 54; refine (copySN (some ad) ce m ca HLA.out hm (by simp) _ ?_).mono ?_; (with_reducible exact HRA.out.keep (t3_bel (by assumption)) (Nat.le_refl _)); rintro e wB ⟨gB, cB, rfl, hownB, hbB⟩; have HXB : Hid (Six w wB pc (.slice (some ⟨gq, oq, none⟩) n cp) (.slice (some ad) m ca) f s) := HX.out.on (undrew hbB); have kr := HXB.out.outs; have HOB : Hid (OwnN wB w.heap.size g1 n c1 st) := HOm.out.on (undrew hbB); have HQz : Hid (_ ∧ _ ∧ _ ∧ _) := hid (by with_reducible exact t3_on hbB (by assumption))))
  have hgb1 : wL.heap.size + 2 ≤ gB := hownB.ge
  have hg1l : g1 < wL.heap.size := HOm.out.lt
  have hg16 : w.heap.size + 6 ≤ g1 := HG1.out
  have HO2 : Hid (OwnN wB w.heap.size gB m cB ce) := hownB.mono (by show w.heap.size ≤ wL.heap.size + 2; omega)
  have HBW : Hid (Below w.heap.size w wB) := HXB.out.bel
  rename_i HH
  clear HH hownB hbB HQz HQ
  go_wp2
  refine bodyPost_ret (v := .tuple #[.agg #[.int .i64 pc, .slice (some ⟨g1, 0, none⟩) n c1], .agg #[.slice (some ⟨gB, 0, none⟩) m cB], .agg #[.int .i64 0, .int .i64 0, .int .i64 0, .int .i64 3]]) (by simp [results, Try.results28, go_sem, kr]) rfl ?_
  refine ⟨g1, c1, gB, cB, rfl, ?_, ?_, ?_, ?_⟩
  · exact HOB.out.set7 (by omega) (by omega) (by omega)
  · exact HO2.out.set7 (by omega) (by omega) (by omega)
  · omega
  · exact below_set7 HBW.out (by omega) (by omega) (by omega)
end Go.Proofs.Ythnocibkgpofnaa
