/-
  The specification's step behind its switch: too many numbers, a jump too far, the answer.
-/
import Derived.Test.YthnocibkgpofnaaSpecH
namespace Go.Proofs.Ythnocibkgpofnaa
open Go.RowKit Go.PlainAid
set_option linter.unusedVariables false
set_option maxRecDepth 100000 in
set_option maxHeartbeats 4000000 in
theorem specTail (w : World) (pc : Int) (qs : Option Addr) (st : List Int) (n cp : Nat) (ad : Addr) (ce : List Int) (m ca : Nat) (f s t : Int) (op arg : Int) (T r : Nat) (U V : Int) (ce' u : List Int) (pcN k po nu : Int) (N : Nat) (k13 k14 kd kA kE g1 c1 g3 c3 g4 c4 : Nat) (W9 : World) (s0 s1 s2 s3 s6 s9 u21 u22 u23 u24 u25 u26 u27 u28 u29 u30 u31 u32 u33 u34 u35 u36 u37 u38 u39 u40 u41 u42 u43 u44 u45 u46 u47 u48 u49 u50 u51 u52 u53 u54 u55 u56 u57 u58 u59 u60 u61 u62 u63 u64 u65 u66 u67 u68 u69 u70 u71 u72 u73 u74 u75 u76 u77 u78 u79 u80 u81 u82 u83 u84 u85 u86 u87 u88 u89 u90 u91 u92 u93 u94 u95 u96 u97 u98 u99 u100 u101 u102 u103 u104 u105 u106 u107 u108 u109 u110 u111 u112 u113 u114 u115 u116 u117 u118 u119 u120 u121 u122 u123 u124 u125 u126 u127 u128 u129 u130 u131 u132 u133 u134 u135 u136 u137 u138 u139 u140 u141 u142 u143 u144 u145 u146 u147 u148 u149 u150 u151 u152 u153 u154 u155 u156 u157 u158 u159 u160 u161 u162 u163 u164 u165 u166 u167 u168 u169 u170 u171 u172 u173 u174 u175 u176 u177 u178 u179 u180 u181 u182 u183 u184 u185 u186 u187 u188 u189 u190 u191 u192 u193 u194 u195 u196 u197 u198 u199 u200 u201 u202 u203 u204 u205 u206 u207 u208 u209 u210 u211 u212 u213 u214 u215 u216 u217 u218 u219 u220 u221 u222 u223 u224 u225 u226 u227 u228 u229 u230 u231 u232 u233 u234 u235 u236 u237 u238 u239 u240 u241 u242 u243 u244 u245 u246 u247 u248 u249 u250 u251 u252 u253 u254 u255 u256 u257 u258 u259 u260 u261 u262 u263 u264 u265 u266 u267 u268 u269 u270 u271 u272 u273 u274 u275 u276 u277 u278 u279 u280 u281 u282 u283 u284 : Value) (hnr : IntKind.i64.wrap ((n : Int) - T) = (r : Int)) (hru : IntKind.i64.wrap ((r : Int) + U) = V) (hov : ¬ (8 < V)) (h60 : ¬ (60 < pcN)) (hB : Bk w W9 pc (.slice qs n cp) (.slice (some ad) m ca) f s k13 g1 n c1 st k14 op arg kA g4 m c4 ce' kE k po nu) (hD : Dk w W9 kd pcN g3 N c3 u k13 g1 g4) :
    WpEnd (bodyPost Try.prog Try.f28 (StepPost w m ⟨pcN, u, ce', k, po, nu, 0⟩ N)) ⟨List.toArray (s0 :: s1 :: s2 :: s3 :: Value.int .i64 t :: Value.pointer (some ⟨w.heap.size, 0, none⟩) :: s6 :: Value.pointer (some ⟨w.heap.size + 1, 0, none⟩) :: Value.pointer (some ⟨w.heap.size + 1 + 1, 0, none⟩) :: s9 :: Value.pointer (some ⟨w.heap.size + 1 + 1 + 1, 0, none⟩) :: Value.pointer (some ⟨w.heap.size + 1 + 1 + 1 + 1, 0, none⟩) :: Value.pointer (some ⟨w.heap.size + 1 + 1 + 1 + 1 + 1, 0, none⟩) :: Value.pointer (some ⟨k13, 0, none⟩) :: Value.pointer (some ⟨k14, 0, none⟩) :: Value.int .i64 (T : Int) :: Value.int .i64 U :: Value.int .i64 (n : Int) :: Value.pointer (some ⟨kd, 0, none⟩) :: Value.pointer (some ⟨kA, 0, none⟩) :: Value.pointer (some ⟨kE, 0, none⟩) :: u21 :: u22 :: u23 :: u24 :: u25 :: u26 :: u27 :: u28 :: u29 :: u30 :: u31 :: u32 :: u33 :: u34 :: u35 :: u36 :: u37 :: u38 :: u39 :: u40 :: u41 :: u42 :: u43 :: u44 :: u45 :: u46 :: u47 :: u48 :: u49 :: u50 :: u51 :: u52 :: u53 :: u54 :: u55 :: u56 :: u57 :: u58 :: u59 :: u60 :: u61 :: u62 :: u63 :: u64 :: u65 :: u66 :: u67 :: u68 :: u69 :: u70 :: u71 :: u72 :: u73 :: u74 :: u75 :: u76 :: u77 :: u78 :: u79 :: u80 :: u81 :: u82 :: u83 :: u84 :: u85 :: u86 :: u87 :: u88 :: u89 :: u90 :: u91 :: u92 :: u93 :: u94 :: u95 :: u96 :: u97 :: u98 :: u99 :: u100 :: u101 :: u102 :: u103 :: u104 :: u105 :: u106 :: u107 :: u108 :: u109 :: u110 :: u111 :: u112 :: u113 :: u114 :: u115 :: u116 :: u117 :: u118 :: u119 :: u120 :: u121 :: u122 :: u123 :: u124 :: u125 :: u126 :: u127 :: u128 :: u129 :: u130 :: u131 :: u132 :: u133 :: u134 :: u135 :: u136 :: u137 :: u138 :: u139 :: u140 :: u141 :: u142 :: u143 :: u144 :: u145 :: u146 :: u147 :: u148 :: u149 :: u150 :: u151 :: u152 :: u153 :: u154 :: u155 :: u156 :: u157 :: u158 :: u159 :: u160 :: u161 :: u162 :: u163 :: u164 :: u165 :: u166 :: u167 :: u168 :: u169 :: u170 :: u171 :: u172 :: u173 :: u174 :: u175 :: u176 :: u177 :: u178 :: u179 :: u180 :: u181 :: u182 :: u183 :: u184 :: u185 :: u186 :: u187 :: u188 :: u189 :: u190 :: u191 :: u192 :: u193 :: u194 :: u195 :: u196 :: u197 :: u198 :: u199 :: u200 :: u201 :: u202 :: u203 :: u204 :: u205 :: u206 :: u207 :: u208 :: u209 :: u210 :: u211 :: u212 :: u213 :: u214 :: u215 :: u216 :: u217 :: u218 :: u219 :: u220 :: u221 :: u222 :: u223 :: u224 :: u225 :: u226 :: u227 :: u228 :: u229 :: u230 :: u231 :: u232 :: u233 :: u234 :: u235 :: u236 :: u237 :: u238 :: u239 :: u240 :: u241 :: u242 :: u243 :: u244 :: u245 :: u246 :: u247 :: u248 :: u249 :: u250 :: u251 :: u252 :: u253 :: u254 :: u255 :: u256 :: u257 :: u258 :: u259 :: u260 :: u261 :: u262 :: u263 :: u264 :: u265 :: u266 :: u267 :: u268 :: u269 :: u270 :: u271 :: u272 :: u273 :: u274 :: u275 :: u276 :: u277 :: u278 :: u279 :: u280 :: u281 :: u282 :: u283 :: u284 :: List.nil), []⟩ W9 := by
  have HB : Hid _ := hB
  have HD : Hid _ := hD
  clear hB hD
  unfold WpEnd
  change Code.wp Try.prog (Code.seq (Code.seq (Code.region 53 _ _) _) _) _ _ _
  have kdd := row2_cells HD.out.box
  go_wp2_with fail
  clear kdd
  have hn6 := HB.out.num
  have hn8 := HD.out.num
  have nb3 : kd ≠ w.heap.size + 1 + 1 + 1 ∧ kA ≠ w.heap.size + 1 + 1 + 1 ∧ kE ≠ w.heap.size + 1 + 1 + 1 := by omega
  have nb4 : kd ≠ w.heap.size + 1 + 1 + 1 + 1 ∧ kA ≠ w.heap.size + 1 + 1 + 1 + 1 ∧ kE ≠ w.heap.size + 1 + 1 + 1 + 1 := by omega
  have nb5 : kd ≠ w.heap.size + 1 + 1 + 1 + 1 + 1 ∧ kA ≠ w.heap.size + 1 + 1 + 1 + 1 + 1 ∧ kE ≠ w.heap.size + 1 + 1 + 1 + 1 + 1 := by omega
  clear hn6 hn8
  have HQ : Hid (W9.cell? ⟨kd, 0, none⟩ = some (.int .i64 pcN) ∧ W9.cell? ⟨kd, 1, none⟩ = some (.slice (some ⟨g3, 0, none⟩) (N) c3) ∧ W9.cell? ⟨kA, 0, none⟩ = some (.slice (some ⟨g4, 0, none⟩) m c4) ∧ W9.cell? ⟨kE, 0, none⟩ = some (.int .i64 k) ∧ W9.cell? ⟨kE, 1, none⟩ = some (.int .i64 po) ∧ W9.cell? ⟨kE, 2, none⟩ = some (.int .i64 nu) ∧ W9.cell? ⟨kE, 3, none⟩ = some (.int .i64 0)) := ⟨(row2_cells HD.out.box).1, (row2_cells HD.out.box).2.1, (row1_cells HB.out.ar).1, (row4_cells HB.out.eff).1, (row4_cells HB.out.eff).2.1, (row4_cells HB.out.eff).2.2.1, (row4_cells HB.out.eff).2.2.2.1⟩
  have kr := HB.out.six.outs
  go_region_held3 (fun w' => w'.cell? ⟨kd, 0, none⟩ = some (.int .i64 pcN) ∧ w'.cell? ⟨kd, 1, none⟩ = some (.slice (some ⟨g3, 0, none⟩) (N) c3) ∧ w'.cell? ⟨kA, 0, none⟩ = some (.slice (some ⟨g4, 0, none⟩) m c4) ∧ w'.cell? ⟨kE, 0, none⟩ = some (.int .i64 k) ∧ w'.cell? ⟨kE, 1, none⟩ = some (.int .i64 po) ∧ w'.cell? ⟨kE, 2, none⟩ = some (.int .i64 nu) ∧ w'.cell? ⟨kE, 3, none⟩ = some (.int .i64 0)) (first | (with_reducible exact f7_drew HQ.out) | (with_reducible exact f7_drew (f7_set nb3 (f7_set nb3 HQ.out))) | (with_reducible exact f7_drew (f7_set nb4 (f7_set nb3 (f7_set nb3 HQ.out)))) | (with_reducible exact f7_drew (f7_set nb5 (f7_set nb5 (f7_set nb5 (f7_set nb5 (f7_set nb4 (f7_set nb3 (f7_set nb3 HQ.out))))))))) (fail)
  rename_i HH
  clear HH HQ
  go_wp2
  refine bodyPost_ret (v := .tuple #[.agg #[.int .i64 (pcN), .slice (some ⟨g3, 0, none⟩) (N) c3], .agg #[.slice (some ⟨g4, 0, none⟩) m c4], .agg #[.int .i64 k, .int .i64 po, .int .i64 nu, .int .i64 0]]) (by simp [results, Try.results28, go_sem, kr]) rfl ?_
  have hnb := HB.out.num
  have hnd := HD.out.num
  refine ⟨g3, c3, g4, c4, rfl, ?_, ?_, by omega, ?_⟩
  · exact OwnN.drew (HD.out.own.set7 (by omega) (by omega) (by omega))
  · exact OwnN.drew (HB.out.own4.set7 (by omega) (by omega) (by omega))
  · exact (below_set7 HB.out.six.bel (by omega) (by omega) (by omega)).drew

set_option maxRecDepth 100000 in
set_option maxHeartbeats 4000000 in
theorem specTail60 (w : World) (pc : Int) (qs : Option Addr) (st : List Int) (n cp : Nat) (ad : Addr) (ce : List Int) (m ca : Nat) (f s t : Int) (op arg : Int) (T r : Nat) (U V : Int) (ce' u : List Int) (pcN k po nu : Int) (N : Nat) (k13 k14 kd kA kE g1 c1 g3 c3 g4 c4 : Nat) (W9 : World) (s0 s1 s2 s3 s6 s9 u21 u22 u23 u24 u25 u26 u27 u28 u29 u30 u31 u32 u33 u34 u35 u36 u37 u38 u39 u40 u41 u42 u43 u44 u45 u46 u47 u48 u49 u50 u51 u52 u53 u54 u55 u56 u57 u58 u59 u60 u61 u62 u63 u64 u65 u66 u67 u68 u69 u70 u71 u72 u73 u74 u75 u76 u77 u78 u79 u80 u81 u82 u83 u84 u85 u86 u87 u88 u89 u90 u91 u92 u93 u94 u95 u96 u97 u98 u99 u100 u101 u102 u103 u104 u105 u106 u107 u108 u109 u110 u111 u112 u113 u114 u115 u116 u117 u118 u119 u120 u121 u122 u123 u124 u125 u126 u127 u128 u129 u130 u131 u132 u133 u134 u135 u136 u137 u138 u139 u140 u141 u142 u143 u144 u145 u146 u147 u148 u149 u150 u151 u152 u153 u154 u155 u156 u157 u158 u159 u160 u161 u162 u163 u164 u165 u166 u167 u168 u169 u170 u171 u172 u173 u174 u175 u176 u177 u178 u179 u180 u181 u182 u183 u184 u185 u186 u187 u188 u189 u190 u191 u192 u193 u194 u195 u196 u197 u198 u199 u200 u201 u202 u203 u204 u205 u206 u207 u208 u209 u210 u211 u212 u213 u214 u215 u216 u217 u218 u219 u220 u221 u222 u223 u224 u225 u226 u227 u228 u229 u230 u231 u232 u233 u234 u235 u236 u237 u238 u239 u240 u241 u242 u243 u244 u245 u246 u247 u248 u249 u250 u251 u252 u253 u254 u255 u256 u257 u258 u259 u260 u261 u262 u263 u264 u265 u266 u267 u268 u269 u270 u271 u272 u273 u274 u275 u276 u277 u278 u279 u280 u281 u282 u283 u284 : Value) (hnr : IntKind.i64.wrap ((n : Int) - T) = (r : Int)) (hru : IntKind.i64.wrap ((r : Int) + U) = V) (hov : ¬ (8 < V)) (h60 : 60 < pcN) (hB : Bk w W9 pc (.slice qs n cp) (.slice (some ad) m ca) f s k13 g1 n c1 st k14 op arg kA g4 m c4 ce' kE k po nu) (hD : Dk w W9 kd pcN g3 N c3 u k13 g1 g4) :
    WpEnd (bodyPost Try.prog Try.f28 (StepPost w m ⟨60, u, ce', k, po, nu, 0⟩ N)) ⟨List.toArray (s0 :: s1 :: s2 :: s3 :: Value.int .i64 t :: Value.pointer (some ⟨w.heap.size, 0, none⟩) :: s6 :: Value.pointer (some ⟨w.heap.size + 1, 0, none⟩) :: Value.pointer (some ⟨w.heap.size + 1 + 1, 0, none⟩) :: s9 :: Value.pointer (some ⟨w.heap.size + 1 + 1 + 1, 0, none⟩) :: Value.pointer (some ⟨w.heap.size + 1 + 1 + 1 + 1, 0, none⟩) :: Value.pointer (some ⟨w.heap.size + 1 + 1 + 1 + 1 + 1, 0, none⟩) :: Value.pointer (some ⟨k13, 0, none⟩) :: Value.pointer (some ⟨k14, 0, none⟩) :: Value.int .i64 (T : Int) :: Value.int .i64 U :: Value.int .i64 (n : Int) :: Value.pointer (some ⟨kd, 0, none⟩) :: Value.pointer (some ⟨kA, 0, none⟩) :: Value.pointer (some ⟨kE, 0, none⟩) :: u21 :: u22 :: u23 :: u24 :: u25 :: u26 :: u27 :: u28 :: u29 :: u30 :: u31 :: u32 :: u33 :: u34 :: u35 :: u36 :: u37 :: u38 :: u39 :: u40 :: u41 :: u42 :: u43 :: u44 :: u45 :: u46 :: u47 :: u48 :: u49 :: u50 :: u51 :: u52 :: u53 :: u54 :: u55 :: u56 :: u57 :: u58 :: u59 :: u60 :: u61 :: u62 :: u63 :: u64 :: u65 :: u66 :: u67 :: u68 :: u69 :: u70 :: u71 :: u72 :: u73 :: u74 :: u75 :: u76 :: u77 :: u78 :: u79 :: u80 :: u81 :: u82 :: u83 :: u84 :: u85 :: u86 :: u87 :: u88 :: u89 :: u90 :: u91 :: u92 :: u93 :: u94 :: u95 :: u96 :: u97 :: u98 :: u99 :: u100 :: u101 :: u102 :: u103 :: u104 :: u105 :: u106 :: u107 :: u108 :: u109 :: u110 :: u111 :: u112 :: u113 :: u114 :: u115 :: u116 :: u117 :: u118 :: u119 :: u120 :: u121 :: u122 :: u123 :: u124 :: u125 :: u126 :: u127 :: u128 :: u129 :: u130 :: u131 :: u132 :: u133 :: u134 :: u135 :: u136 :: u137 :: u138 :: u139 :: u140 :: u141 :: u142 :: u143 :: u144 :: u145 :: u146 :: u147 :: u148 :: u149 :: u150 :: u151 :: u152 :: u153 :: u154 :: u155 :: u156 :: u157 :: u158 :: u159 :: u160 :: u161 :: u162 :: u163 :: u164 :: u165 :: u166 :: u167 :: u168 :: u169 :: u170 :: u171 :: u172 :: u173 :: u174 :: u175 :: u176 :: u177 :: u178 :: u179 :: u180 :: u181 :: u182 :: u183 :: u184 :: u185 :: u186 :: u187 :: u188 :: u189 :: u190 :: u191 :: u192 :: u193 :: u194 :: u195 :: u196 :: u197 :: u198 :: u199 :: u200 :: u201 :: u202 :: u203 :: u204 :: u205 :: u206 :: u207 :: u208 :: u209 :: u210 :: u211 :: u212 :: u213 :: u214 :: u215 :: u216 :: u217 :: u218 :: u219 :: u220 :: u221 :: u222 :: u223 :: u224 :: u225 :: u226 :: u227 :: u228 :: u229 :: u230 :: u231 :: u232 :: u233 :: u234 :: u235 :: u236 :: u237 :: u238 :: u239 :: u240 :: u241 :: u242 :: u243 :: u244 :: u245 :: u246 :: u247 :: u248 :: u249 :: u250 :: u251 :: u252 :: u253 :: u254 :: u255 :: u256 :: u257 :: u258 :: u259 :: u260 :: u261 :: u262 :: u263 :: u264 :: u265 :: u266 :: u267 :: u268 :: u269 :: u270 :: u271 :: u272 :: u273 :: u274 :: u275 :: u276 :: u277 :: u278 :: u279 :: u280 :: u281 :: u282 :: u283 :: u284 :: List.nil), []⟩ W9 := by
  have HB : Hid _ := hB
  have HD : Hid _ := hD
  clear hB hD
  unfold WpEnd
  change Code.wp Try.prog (Code.seq (Code.seq (Code.region 53 _ _) _) _) _ _ _
  have kdd := row2_cells HD.out.box
  have HB2 : Hid (Bk w (W9.setCell ⟨kd, 0, none⟩ (.int .i64 60)) pc (.slice qs n cp) (.slice (some ad) m ca) f s k13 g1 n c1 st k14 op arg kA g4 m c4 ce' kE k po nu) := HB.out.setD HD.out
  have HD2 : Hid (Dk w (W9.setCell ⟨kd, 0, none⟩ (.int .i64 60)) kd 60 g3 N c3 u k13 g1 g4) := HD.out.toPc
  go_wp2_with fail
  clear kdd HB HD
  have HB := HB2
  have HD := HD2
  clear HB2 HD2
  generalize hWX : (W9.setCell ⟨kd, 0, none⟩ (.int .i64 60)) = WX at *
  clear hWX
  have hn6 := HB.out.num
  have hn8 := HD.out.num
  have nb3 : kd ≠ w.heap.size + 1 + 1 + 1 ∧ kA ≠ w.heap.size + 1 + 1 + 1 ∧ kE ≠ w.heap.size + 1 + 1 + 1 := by omega
  have nb4 : kd ≠ w.heap.size + 1 + 1 + 1 + 1 ∧ kA ≠ w.heap.size + 1 + 1 + 1 + 1 ∧ kE ≠ w.heap.size + 1 + 1 + 1 + 1 := by omega
  have nb5 : kd ≠ w.heap.size + 1 + 1 + 1 + 1 + 1 ∧ kA ≠ w.heap.size + 1 + 1 + 1 + 1 + 1 ∧ kE ≠ w.heap.size + 1 + 1 + 1 + 1 + 1 := by omega
  clear hn6 hn8
  have HQ : Hid (WX.cell? ⟨kd, 0, none⟩ = some (.int .i64 60) ∧ WX.cell? ⟨kd, 1, none⟩ = some (.slice (some ⟨g3, 0, none⟩) (N) c3) ∧ WX.cell? ⟨kA, 0, none⟩ = some (.slice (some ⟨g4, 0, none⟩) m c4) ∧ WX.cell? ⟨kE, 0, none⟩ = some (.int .i64 k) ∧ WX.cell? ⟨kE, 1, none⟩ = some (.int .i64 po) ∧ WX.cell? ⟨kE, 2, none⟩ = some (.int .i64 nu) ∧ WX.cell? ⟨kE, 3, none⟩ = some (.int .i64 0)) := ⟨(row2_cells HD.out.box).1, (row2_cells HD.out.box).2.1, (row1_cells HB.out.ar).1, (row4_cells HB.out.eff).1, (row4_cells HB.out.eff).2.1, (row4_cells HB.out.eff).2.2.1, (row4_cells HB.out.eff).2.2.2.1⟩
  have kr := HB.out.six.outs
  go_region_held3 (fun w' => w'.cell? ⟨kd, 0, none⟩ = some (.int .i64 60) ∧ w'.cell? ⟨kd, 1, none⟩ = some (.slice (some ⟨g3, 0, none⟩) (N) c3) ∧ w'.cell? ⟨kA, 0, none⟩ = some (.slice (some ⟨g4, 0, none⟩) m c4) ∧ w'.cell? ⟨kE, 0, none⟩ = some (.int .i64 k) ∧ w'.cell? ⟨kE, 1, none⟩ = some (.int .i64 po) ∧ w'.cell? ⟨kE, 2, none⟩ = some (.int .i64 nu) ∧ w'.cell? ⟨kE, 3, none⟩ = some (.int .i64 0)) (first | (with_reducible exact f7_drew HQ.out) | (with_reducible exact f7_drew (f7_set nb3 (f7_set nb3 HQ.out))) | (with_reducible exact f7_drew (f7_set nb4 (f7_set nb3 (f7_set nb3 HQ.out)))) | (with_reducible exact f7_drew (f7_set nb5 (f7_set nb5 (f7_set nb5 (f7_set nb5 (f7_set nb4 (f7_set nb3 (f7_set nb3 HQ.out))))))))) (fail)
  rename_i HH
  clear HH HQ
  go_wp2
  refine bodyPost_ret (v := .tuple #[.agg #[.int .i64 (60), .slice (some ⟨g3, 0, none⟩) (N) c3], .agg #[.slice (some ⟨g4, 0, none⟩) m c4], .agg #[.int .i64 k, .int .i64 po, .int .i64 nu, .int .i64 0]]) (by simp [results, Try.results28, go_sem, kr]) rfl ?_
  have hnb := HB.out.num
  have hnd := HD.out.num
  refine ⟨g3, c3, g4, c4, rfl, ?_, ?_, by omega, ?_⟩
  · exact OwnN.drew (HD.out.own.set7 (by omega) (by omega) (by omega))
  · exact OwnN.drew (HB.out.own4.set7 (by omega) (by omega) (by omega))
  · exact (below_set7 HB.out.six.bel (by omega) (by omega) (by omega)).drew

set_option maxRecDepth 100000 in
set_option maxHeartbeats 4000000 in
theorem specOver (w : World) (pc : Int) (qs : Option Addr) (st : List Int) (n cp : Nat) (ad : Addr) (ce : List Int) (m ca : Nat) (f s t : Int) (op arg : Int) (T r : Nat) (U V : Int) (ce' u : List Int) (pcN k po nu : Int) (N : Nat) (k13 k14 kd kA kE g1 c1 g3 c3 g4 c4 : Nat) (W9 : World) (s0 s1 s2 s3 s6 s9 u21 u22 u23 u24 u25 u26 u27 u28 u29 u30 u31 u32 u33 u34 u35 u36 u37 u38 u39 u40 u41 u42 u43 u44 u45 u46 u47 u48 u49 u50 u51 u52 u53 u54 u55 u56 u57 u58 u59 u60 u61 u62 u63 u64 u65 u66 u67 u68 u69 u70 u71 u72 u73 u74 u75 u76 u77 u78 u79 u80 u81 u82 u83 u84 u85 u86 u87 u88 u89 u90 u91 u92 u93 u94 u95 u96 u97 u98 u99 u100 u101 u102 u103 u104 u105 u106 u107 u108 u109 u110 u111 u112 u113 u114 u115 u116 u117 u118 u119 u120 u121 u122 u123 u124 u125 u126 u127 u128 u129 u130 u131 u132 u133 u134 u135 u136 u137 u138 u139 u140 u141 u142 u143 u144 u145 u146 u147 u148 u149 u150 u151 u152 u153 u154 u155 u156 u157 u158 u159 u160 u161 u162 u163 u164 u165 u166 u167 u168 u169 u170 u171 u172 u173 u174 u175 u176 u177 u178 u179 u180 u181 u182 u183 u184 u185 u186 u187 u188 u189 u190 u191 u192 u193 u194 u195 u196 u197 u198 u199 u200 u201 u202 u203 u204 u205 u206 u207 u208 u209 u210 u211 u212 u213 u214 u215 u216 u217 u218 u219 u220 u221 u222 u223 u224 u225 u226 u227 u228 u229 u230 u231 u232 u233 u234 u235 u236 u237 u238 u239 u240 u241 u242 u243 u244 u245 u246 u247 u248 u249 u250 u251 u252 u253 u254 u255 u256 u257 u258 u259 u260 u261 u262 u263 u264 u265 u266 u267 u268 u269 u270 u271 u272 u273 u274 u275 u276 u277 u278 u279 u280 u281 u282 u283 u284 : Value) (hnr : IntKind.i64.wrap ((n : Int) - T) = (r : Int)) (hru : IntKind.i64.wrap ((r : Int) + U) = V) (hov : 8 < V) (hla : ce.length = m) (hm : m ≤ 1048576) (hra : Rd w (some ad) ce) (hB : Bk w W9 pc (.slice qs n cp) (.slice (some ad) m ca) f s k13 g1 n c1 st k14 op arg kA g4 m c4 ce' kE k po nu) (hD : Dk w W9 kd pcN g3 N c3 u k13 g1 g4) :
    WpEnd (bodyPost Try.prog Try.f28 (StepPost w m (trapR pc st ce 4) n)) ⟨List.toArray (s0 :: s1 :: s2 :: s3 :: Value.int .i64 t :: Value.pointer (some ⟨w.heap.size, 0, none⟩) :: s6 :: Value.pointer (some ⟨w.heap.size + 1, 0, none⟩) :: Value.pointer (some ⟨w.heap.size + 1 + 1, 0, none⟩) :: s9 :: Value.pointer (some ⟨w.heap.size + 1 + 1 + 1, 0, none⟩) :: Value.pointer (some ⟨w.heap.size + 1 + 1 + 1 + 1, 0, none⟩) :: Value.pointer (some ⟨w.heap.size + 1 + 1 + 1 + 1 + 1, 0, none⟩) :: Value.pointer (some ⟨k13, 0, none⟩) :: Value.pointer (some ⟨k14, 0, none⟩) :: Value.int .i64 (T : Int) :: Value.int .i64 U :: Value.int .i64 (n : Int) :: Value.pointer (some ⟨kd, 0, none⟩) :: Value.pointer (some ⟨kA, 0, none⟩) :: Value.pointer (some ⟨kE, 0, none⟩) :: u21 :: u22 :: u23 :: u24 :: u25 :: u26 :: u27 :: u28 :: u29 :: u30 :: u31 :: u32 :: u33 :: u34 :: u35 :: u36 :: u37 :: u38 :: u39 :: u40 :: u41 :: u42 :: u43 :: u44 :: u45 :: u46 :: u47 :: u48 :: u49 :: u50 :: u51 :: u52 :: u53 :: u54 :: u55 :: u56 :: u57 :: u58 :: u59 :: u60 :: u61 :: u62 :: u63 :: u64 :: u65 :: u66 :: u67 :: u68 :: u69 :: u70 :: u71 :: u72 :: u73 :: u74 :: u75 :: u76 :: u77 :: u78 :: u79 :: u80 :: u81 :: u82 :: u83 :: u84 :: u85 :: u86 :: u87 :: u88 :: u89 :: u90 :: u91 :: u92 :: u93 :: u94 :: u95 :: u96 :: u97 :: u98 :: u99 :: u100 :: u101 :: u102 :: u103 :: u104 :: u105 :: u106 :: u107 :: u108 :: u109 :: u110 :: u111 :: u112 :: u113 :: u114 :: u115 :: u116 :: u117 :: u118 :: u119 :: u120 :: u121 :: u122 :: u123 :: u124 :: u125 :: u126 :: u127 :: u128 :: u129 :: u130 :: u131 :: u132 :: u133 :: u134 :: u135 :: u136 :: u137 :: u138 :: u139 :: u140 :: u141 :: u142 :: u143 :: u144 :: u145 :: u146 :: u147 :: u148 :: u149 :: u150 :: u151 :: u152 :: u153 :: u154 :: u155 :: u156 :: u157 :: u158 :: u159 :: u160 :: u161 :: u162 :: u163 :: u164 :: u165 :: u166 :: u167 :: u168 :: u169 :: u170 :: u171 :: u172 :: u173 :: u174 :: u175 :: u176 :: u177 :: u178 :: u179 :: u180 :: u181 :: u182 :: u183 :: u184 :: u185 :: u186 :: u187 :: u188 :: u189 :: u190 :: u191 :: u192 :: u193 :: u194 :: u195 :: u196 :: u197 :: u198 :: u199 :: u200 :: u201 :: u202 :: u203 :: u204 :: u205 :: u206 :: u207 :: u208 :: u209 :: u210 :: u211 :: u212 :: u213 :: u214 :: u215 :: u216 :: u217 :: u218 :: u219 :: u220 :: u221 :: u222 :: u223 :: u224 :: u225 :: u226 :: u227 :: u228 :: u229 :: u230 :: u231 :: u232 :: u233 :: u234 :: u235 :: u236 :: u237 :: u238 :: u239 :: u240 :: u241 :: u242 :: u243 :: u244 :: u245 :: u246 :: u247 :: u248 :: u249 :: u250 :: u251 :: u252 :: u253 :: u254 :: u255 :: u256 :: u257 :: u258 :: u259 :: u260 :: u261 :: u262 :: u263 :: u264 :: u265 :: u266 :: u267 :: u268 :: u269 :: u270 :: u271 :: u272 :: u273 :: u274 :: u275 :: u276 :: u277 :: u278 :: u279 :: u280 :: u281 :: u282 :: u283 :: u284 :: List.nil), []⟩ W9 := by
  have HB : Hid _ := hB
  have HD : Hid _ := hD
  clear hB hD
  have HLA : Hid (ce.length = m) := hla
  have HRA : Hid (Rd w (some ad) ce) := hra
  clear hla hra
  unfold WpEnd
  change Code.wp Try.prog (Code.seq (Code.seq (Code.region 53 _ _) _) _) _ _ _
  go_wp2_with fail
  have HX : Hid (Six w W9 pc (.slice qs n cp) (.slice (some ad) m ca) f s) := HB.out.six
  have HSm : Hid (W9.heap[k13]? = _) := HB.out.same
  have HOm : Hid (OwnN W9 w.heap.size g1 n c1 st) := HB.out.own1
  have HK13 : Hid (w.heap.size + 6 ≤ k13) := HB.out.num.1
  have HG1 : Hid (w.heap.size + 6 ≤ g1) := HB.out.num.2.2.2.2.1
  clear HB HD
  have k3 : w.heap.size + 3 ≤ w.heap.size + 1 + 1 + 1 := by omega
  have k4 : w.heap.size + 3 ≤ w.heap.size + 1 + 1 + 1 + 1 := by omega
  have k5 : w.heap.size + 3 ≤ w.heap.size + 1 + 1 + 1 + 1 + 1 := by omega
  have n3 : k13 ≠ w.heap.size + 1 + 1 + 1 := by have := HK13.out; omega
  have n4 : k13 ≠ w.heap.size + 1 + 1 + 1 + 1 := by have := HK13.out; omega
  have n5 : k13 ≠ w.heap.size + 1 + 1 + 1 + 1 + 1 := by have := HK13.out; omega
  have HQ : Hid (W9.drew.cell? ⟨k13, 0, none⟩ = some (.int .i64 pc) ∧ W9.drew.cell? ⟨k13, 1, none⟩ = some (.slice (some ⟨g1, 0, none⟩) n c1) ∧ W9.drew.cell? ⟨w.heap.size + 1, 0, none⟩ = some (.slice (some ad) m ca) ∧ Below w.heap.size w W9.drew) := ⟨(row2_cells HSm.out).1, (row2_cells HSm.out).2.1, (row1_cells HX.out.2.1).1, HX.out.bel.drew⟩
  have hltX := HX.out.lt
  go_region_held3 (fun w' => w'.cell? ⟨k13, 0, none⟩ = some (.int .i64 pc) ∧ w'.cell? ⟨k13, 1, none⟩ = some (.slice (some ⟨g1, 0, none⟩) n c1) ∧ w'.cell? ⟨w.heap.size + 1, 0, none⟩ = some (.slice (some ad) m ca) ∧ Below w.heap.size w w') (first | (with_reducible exact HQ.out) | (with_reducible exact HQz.out) | (with_reducible exact t3_set k3 n3 (t3_set k3 n3 (by assumption))) | (with_reducible exact t3_set k4 n4 (by assumption)) | (with_reducible exact t3_set k5 n5 (t3_set k5 n5 (t3_set k5 n5 (t3_set k5 n5 (by assumption))))) | (with_reducible exact t3_on (by assumption) (by assumption))) (first | (go_at_call 54; refine (copySN (some ad) ce m ca HLA.out hm (by simp) _ ?_).mono ?_; (with_reducible exact HRA.out.keep (t3_bel (by assumption)) (Nat.le_refl _)); rintro e wB ⟨gB, cB, rfl, hownB, hbB⟩; have HXB : Hid (Six w wB pc (.slice qs n cp) (.slice (some ad) m ca) f s) := HX.out.on (undrew hbB); have kr := HXB.out.outs; have HOB : Hid (OwnN wB w.heap.size g1 n c1 st) := HOm.out.on (undrew hbB); have HQz : Hid (_ ∧ _ ∧ _ ∧ _) := hid (by with_reducible exact t3_on hbB (by assumption))))
  have hgb1 : W9.heap.size + 2 ≤ gB := hownB.ge
  have hg1l : g1 < W9.heap.size := HOm.out.lt
  have hg16 : w.heap.size + 6 ≤ g1 := HG1.out
  have HO2 : Hid (OwnN wB w.heap.size gB m cB ce) := hownB.mono (by show w.heap.size ≤ W9.heap.size + 2; omega)
  have HBW : Hid (Below w.heap.size w wB) := HXB.out.bel
  rename_i HH
  clear HH hownB hbB HQz HQ
  go_wp2
  refine bodyPost_ret (v := .tuple #[.agg #[.int .i64 pc, .slice (some ⟨g1, 0, none⟩) n c1], .agg #[.slice (some ⟨gB, 0, none⟩) m cB], .agg #[.int .i64 0, .int .i64 0, .int .i64 0, .int .i64 4]]) (by simp [results, Try.results28, go_sem, kr]) rfl ?_
  refine ⟨g1, c1, gB, cB, rfl, ?_, ?_, ?_, ?_⟩
  · exact HOB.out.set7 (by omega) (by omega) (by omega)
  · exact HO2.out.set7 (by omega) (by omega) (by omega)
  · omega
  · exact below_set7 HBW.out (by omega) (by omega) (by omega)
end Go.Proofs.Ythnocibkgpofnaa
