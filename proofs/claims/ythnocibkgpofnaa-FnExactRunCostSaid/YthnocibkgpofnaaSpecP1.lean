/-
  The specification: instructions that put no drawn number.
-/
import Derived.Test.YthnocibkgpofnaaSpecT
namespace Go.Proofs.Ythnocibkgpofnaa
open Go.RowKit Go.PlainAid
set_option linter.unusedVariables false
section
variable {w W W' : World} {pc : Int} {sv av : Value} {f s : Int} {k13 g1 n c1 : Nat} {st : List Int} {k14 : Nat} {op arg : Int} {kA g4 m c4 : Nat} {ce : List Int} {kE : Nat} {k po nu : Int} {kd : Nat} {pcN : Int} {g3 N c3 : Nat} {u : List Int}
theorem Bk.kind {k' : Int} (h : Bk w W pc sv av f s k13 g1 n c1 st k14 op arg kA g4 m c4 ce kE k po nu) : Bk w (W.setCell ⟨kE, 0, none⟩ (.int .i64 k')) pc sv av f s k13 g1 n c1 st k14 op arg kA g4 m c4 ce kE k' po nu := by
  have n1 := h.num
  exact ⟨h.six.put n1.2.2.2.1, row_set h.same (rows_ne h.same h.eff (by decide)), h.own1.set (own_ne h.own1 h.eff (by decide)), row_set h.ins (rows_ne h.ins h.eff (by decide)), row_set h.ar (rows_ne h.ar h.eff (by decide)), h.own4.set (own_ne h.own4 h.eff (by decide)), set1_row (i := 0) h.eff, h.num⟩
theorem Dk.kind {i : Nat} {v : Value} (h : Bk w W pc sv av f s k13 g1 n c1 st k14 op arg kA g4 m c4 ce kE k po nu) (d : Dk w W kd pcN g3 N c3 u k13 g1 g4) : Dk w (W.setCell ⟨kE, i, none⟩ v) kd pcN g3 N c3 u k13 g1 g4 :=
  ⟨row_set d.box (rows_ne d.box h.eff (by decide)), d.own.set (own_ne d.own h.eff (by decide)), d.num⟩
end

set_option maxRecDepth 100000 in
set_option maxHeartbeats 4000000 in
theorem swNop (w : World) (pc : Int) (qs : Option Addr) (st : List Int) (n cp : Nat) (ad : Addr) (ce : List Int) (m ca : Nat) (f s t arg : Int) (T r : Nat) (U V : Int) (hrb : r ≤ 1048576) (hnr : IntKind.i64.wrap ((n : Int) - T) = (r : Int)) (hru : IntKind.i64.wrap ((r : Int) + U) = V) (hov : ¬ (8 < V)) (h61 : ¬ (60 < pc + 1)) : SwOk w pc qs st n cp ad ce m ca f s t 0 arg T r U (StepPost w m (okR (pc + 1) (st.take r) ce) (r)) := by
  intro k13 k14 kd kA kE g1 c1 g3 c3 g4 c4 W8 s0 s1 s2 s3 s6 s9 u21 u22 u23 u24 u25 u26 u27 u28 u29 u30 u31 u32 u33 u34 u35 u36 u37 u38 u39 u40 u41 u42 u43 u44 u45 u46 u47 u48 u49 u50 u51 u52 u53 u54 u55 u56 u57 u58 u59 u60 u61 u62 u63 u64 u65 u66 u67 u68 u69 u70 u71 u72 u73 u74 u75 u76 u77 u78 u79 u80 u81 u82 u83 u84 u85 u86 u87 u88 u89 u90 u91 u92 u93 u94 u95 u96 u97 u98 u99 u100 u101 u102 u103 u104 u105 u106 u107 u108 u109 u110 u111 u112 u113 u114 u115 u116 u117 u118 u119 u120 u121 u122 u123 u124 u125 u126 u127 u128 u129 u130 u131 u132 u133 u134 u135 u136 u137 u138 u139 u140 u141 u142 u143 u144 u145 u146 u147 u148 u149 u150 u151 u152 u153 u154 u155 u156 u157 u158 u159 u160 u161 u162 u163 u164 u165 u166 u167 u168 u169 u170 u171 u172 u173 u174 u175 u176 u177 u178 u179 u180 u181 u182 u183 u184 u185 u186 u187 u188 u189 u190 u191 u192 u193 u194 u195 u196 u197 u198 u199 u200 u201 u202 u203 u204 u205 u206 u207 u208 u209 u210 u211 u212 u213 u214 u215 u216 u217 u218 u219 u220 u221 u222 u223 u224 u225 u226 u227 u228 u229 u230 u231 u232 u233 u234 u235 u236 u237 u238 u239 u240 u241 u242 u243 u244 u245 u246 u247 u248 u249 u250 u251 u252 u253 u254 u255 u256 u257 u258 u259 u260 u261 u262 u263 u264 u265 u266 u267 u268 u269 u270 u271 u272 u273 u274 u275 u276 u277 u278 u279 u280 u281 u282 u283 u284 hB hD
  have HB : Hid (Bk w W8 pc (.slice qs n cp) (.slice (some ad) m ca) f s k13 g1 n c1 st k14 0 arg kA g4 m c4 ce kE 0 0 0) := hB
  have HD : Hid (Dk w W8 kd (pc + 1) g3 r c3 (st.take r) k13 g1 g4) := hD
  clear hB hD
  unfold WpSw
  change Code.wp Try.prog (Code.seq (Code.seq (Code.region 14 _ _) (Code.block 0 _)) _) _ _ _
  have ki := row2_cells HB.out.ins
  go_upto_block 0 with fail
  go_cut [] (fun wc => Hid (Bk w wc pc (.slice qs n cp) (.slice (some ad) m ca) f s k13 g1 n c1 st k14 0 arg kA g4 m c4 ce kE 0 0 0) ∧ Hid (Dk w wc kd (pc + 1) g3 r c3 (st.take r) k13 g1 g4))
  case first =>
    have ke := row4_cells HB.out.eff
    go_wp2_with fail
    go_meet
    exact ⟨HB.out.kind, Dk.kind HB.out HD.out⟩
  case rest =>
  clear HB HD
  rename World => W9
  obtain ⟨HB, HD⟩ := hcut
  rename_i KK hKK
  refine hKK _ _ ?_
  exact specTail w pc qs st n cp ad ce m ca f s t 0 arg T r U V ce (st.take r) (pc + 1) 0 0 0 r k13 k14 kd kA kE g1 c1 g3 c3 g4 c4 W9 _ _ _ _ _ _ _ _ _ _ _ _ _ _ _ _ _ _ _ _ _ _ _ _ _ _ _ _ _ _ _ _ _ _ _ _ _ _ _ _ _ _ _ _ _ _ _ _ _ _ _ _ _ _ _ _ _ _ _ _ _ _ _ _ _ _ _ _ _ _ _ _ _ _ _ _ _ _ _ _ _ _ _ _ _ _ _ _ _ _ _ _ _ _ _ _ _ _ _ _ _ _ _ _ _ _ _ _ _ _ _ _ _ _ _ _ _ _ _ _ _ _ _ _ _ _ _ _ _ _ _ _ _ _ _ _ _ _ _ _ _ _ _ _ _ _ _ _ _ _ _ _ _ _ _ _ _ _ _ _ _ _ _ _ _ _ _ _ _ _ _ _ _ _ _ _ _ _ _ _ _ _ _ _ _ _ _ _ _ _ _ _ _ _ _ _ _ _ _ _ _ _ _ _ _ _ _ _ _ _ _ _ _ _ _ _ _ _ _ _ _ _ _ _ _ _ _ _ _ _ _ _ _ _ _ _ _ _ _ _ _ _ _ _ _ _ _ _ _ _ _ _ _ _ _ _ _ _ _ _ _ _ _ _ _ _ _ _ _ _ hnr hru hov h61 HB.out HD.out

set_option maxRecDepth 100000 in
set_option maxHeartbeats 4000000 in
theorem swDrop (w : World) (pc : Int) (qs : Option Addr) (st : List Int) (n cp : Nat) (ad : Addr) (ce : List Int) (m ca : Nat) (f s t arg : Int) (T r : Nat) (U V : Int) (hrb : r ≤ 1048576) (hnr : IntKind.i64.wrap ((n : Int) - T) = (r : Int)) (hru : IntKind.i64.wrap ((r : Int) + U) = V) (hov : ¬ (8 < V)) (h61 : ¬ (60 < pc + 1)) : SwOk w pc qs st n cp ad ce m ca f s t 12 arg T r U (StepPost w m (okR (pc + 1) (st.take r) ce) (r)) := by
  intro k13 k14 kd kA kE g1 c1 g3 c3 g4 c4 W8 s0 s1 s2 s3 s6 s9 u21 u22 u23 u24 u25 u26 u27 u28 u29 u30 u31 u32 u33 u34 u35 u36 u37 u38 u39 u40 u41 u42 u43 u44 u45 u46 u47 u48 u49 u50 u51 u52 u53 u54 u55 u56 u57 u58 u59 u60 u61 u62 u63 u64 u65 u66 u67 u68 u69 u70 u71 u72 u73 u74 u75 u76 u77 u78 u79 u80 u81 u82 u83 u84 u85 u86 u87 u88 u89 u90 u91 u92 u93 u94 u95 u96 u97 u98 u99 u100 u101 u102 u103 u104 u105 u106 u107 u108 u109 u110 u111 u112 u113 u114 u115 u116 u117 u118 u119 u120 u121 u122 u123 u124 u125 u126 u127 u128 u129 u130 u131 u132 u133 u134 u135 u136 u137 u138 u139 u140 u141 u142 u143 u144 u145 u146 u147 u148 u149 u150 u151 u152 u153 u154 u155 u156 u157 u158 u159 u160 u161 u162 u163 u164 u165 u166 u167 u168 u169 u170 u171 u172 u173 u174 u175 u176 u177 u178 u179 u180 u181 u182 u183 u184 u185 u186 u187 u188 u189 u190 u191 u192 u193 u194 u195 u196 u197 u198 u199 u200 u201 u202 u203 u204 u205 u206 u207 u208 u209 u210 u211 u212 u213 u214 u215 u216 u217 u218 u219 u220 u221 u222 u223 u224 u225 u226 u227 u228 u229 u230 u231 u232 u233 u234 u235 u236 u237 u238 u239 u240 u241 u242 u243 u244 u245 u246 u247 u248 u249 u250 u251 u252 u253 u254 u255 u256 u257 u258 u259 u260 u261 u262 u263 u264 u265 u266 u267 u268 u269 u270 u271 u272 u273 u274 u275 u276 u277 u278 u279 u280 u281 u282 u283 u284 hB hD
  have HB : Hid (Bk w W8 pc (.slice qs n cp) (.slice (some ad) m ca) f s k13 g1 n c1 st k14 12 arg kA g4 m c4 ce kE 0 0 0) := hB
  have HD : Hid (Dk w W8 kd (pc + 1) g3 r c3 (st.take r) k13 g1 g4) := hD
  clear hB hD
  unfold WpSw
  change Code.wp Try.prog (Code.seq (Code.seq (Code.region 14 _ _) (Code.block 0 _)) _) _ _ _
  have ki := row2_cells HB.out.ins
  go_upto_block 0 with fail
  go_cut [] (fun wc => Hid (Bk w wc pc (.slice qs n cp) (.slice (some ad) m ca) f s k13 g1 n c1 st k14 12 arg kA g4 m c4 ce kE 0 0 0) ∧ Hid (Dk w wc kd (pc + 1) g3 r c3 (st.take r) k13 g1 g4))
  case first =>
    go_wp2_with fail
    go_meet
    exact ⟨HB, HD⟩
  case rest =>
  clear HB HD
  rename World => W9
  obtain ⟨HB, HD⟩ := hcut
  rename_i KK hKK
  refine hKK _ _ ?_
  exact specTail w pc qs st n cp ad ce m ca f s t 12 arg T r U V ce (st.take r) (pc + 1) 0 0 0 r k13 k14 kd kA kE g1 c1 g3 c3 g4 c4 W9 _ _ _ _ _ _ _ _ _ _ _ _ _ _ _ _ _ _ _ _ _ _ _ _ _ _ _ _ _ _ _ _ _ _ _ _ _ _ _ _ _ _ _ _ _ _ _ _ _ _ _ _ _ _ _ _ _ _ _ _ _ _ _ _ _ _ _ _ _ _ _ _ _ _ _ _ _ _ _ _ _ _ _ _ _ _ _ _ _ _ _ _ _ _ _ _ _ _ _ _ _ _ _ _ _ _ _ _ _ _ _ _ _ _ _ _ _ _ _ _ _ _ _ _ _ _ _ _ _ _ _ _ _ _ _ _ _ _ _ _ _ _ _ _ _ _ _ _ _ _ _ _ _ _ _ _ _ _ _ _ _ _ _ _ _ _ _ _ _ _ _ _ _ _ _ _ _ _ _ _ _ _ _ _ _ _ _ _ _ _ _ _ _ _ _ _ _ _ _ _ _ _ _ _ _ _ _ _ _ _ _ _ _ _ _ _ _ _ _ _ _ _ _ _ _ _ _ _ _ _ _ _ _ _ _ _ _ _ _ _ _ _ _ _ _ _ _ _ _ _ _ _ _ _ _ _ _ _ _ _ _ _ _ _ _ _ _ _ _ _ hnr hru hov h61 HB.out HD.out

set_option maxRecDepth 100000 in
set_option maxHeartbeats 4000000 in
theorem swJump (w : World) (pc : Int) (qs : Option Addr) (st : List Int) (n cp : Nat) (ad : Addr) (ce : List Int) (m ca : Nat) (f s t arg : Int) (T r : Nat) (U V : Int) (hrb : r ≤ 1048576) (hnr : IntKind.i64.wrap ((n : Int) - T) = (r : Int)) (hru : IntKind.i64.wrap ((r : Int) + U) = V) (hov : ¬ (8 < V)) (h60 : ¬ (60 < arg)) : SwOk w pc qs st n cp ad ce m ca f s t 9 arg T r U (StepPost w m (okR arg (st.take r) ce) (r)) := by
  intro k13 k14 kd kA kE g1 c1 g3 c3 g4 c4 W8 s0 s1 s2 s3 s6 s9 u21 u22 u23 u24 u25 u26 u27 u28 u29 u30 u31 u32 u33 u34 u35 u36 u37 u38 u39 u40 u41 u42 u43 u44 u45 u46 u47 u48 u49 u50 u51 u52 u53 u54 u55 u56 u57 u58 u59 u60 u61 u62 u63 u64 u65 u66 u67 u68 u69 u70 u71 u72 u73 u74 u75 u76 u77 u78 u79 u80 u81 u82 u83 u84 u85 u86 u87 u88 u89 u90 u91 u92 u93 u94 u95 u96 u97 u98 u99 u100 u101 u102 u103 u104 u105 u106 u107 u108 u109 u110 u111 u112 u113 u114 u115 u116 u117 u118 u119 u120 u121 u122 u123 u124 u125 u126 u127 u128 u129 u130 u131 u132 u133 u134 u135 u136 u137 u138 u139 u140 u141 u142 u143 u144 u145 u146 u147 u148 u149 u150 u151 u152 u153 u154 u155 u156 u157 u158 u159 u160 u161 u162 u163 u164 u165 u166 u167 u168 u169 u170 u171 u172 u173 u174 u175 u176 u177 u178 u179 u180 u181 u182 u183 u184 u185 u186 u187 u188 u189 u190 u191 u192 u193 u194 u195 u196 u197 u198 u199 u200 u201 u202 u203 u204 u205 u206 u207 u208 u209 u210 u211 u212 u213 u214 u215 u216 u217 u218 u219 u220 u221 u222 u223 u224 u225 u226 u227 u228 u229 u230 u231 u232 u233 u234 u235 u236 u237 u238 u239 u240 u241 u242 u243 u244 u245 u246 u247 u248 u249 u250 u251 u252 u253 u254 u255 u256 u257 u258 u259 u260 u261 u262 u263 u264 u265 u266 u267 u268 u269 u270 u271 u272 u273 u274 u275 u276 u277 u278 u279 u280 u281 u282 u283 u284 hB hD
  have HB : Hid (Bk w W8 pc (.slice qs n cp) (.slice (some ad) m ca) f s k13 g1 n c1 st k14 9 arg kA g4 m c4 ce kE 0 0 0) := hB
  have HD : Hid (Dk w W8 kd (pc + 1) g3 r c3 (st.take r) k13 g1 g4) := hD
  clear hB hD
  unfold WpSw
  change Code.wp Try.prog (Code.seq (Code.seq (Code.region 14 _ _) (Code.block 0 _)) _) _ _ _
  have ki := row2_cells HB.out.ins
  go_upto_block 0 with fail
  go_cut [] (fun wc => Hid (Bk w wc pc (.slice qs n cp) (.slice (some ad) m ca) f s k13 g1 n c1 st k14 9 arg kA g4 m c4 ce kE 0 0 0) ∧ Hid (Dk w wc kd arg g3 r c3 (st.take r) k13 g1 g4))
  case first =>
    have kdd := row2_cells HD.out.box
    go_wp2_with fail
    go_meet
    exact ⟨HB.out.setD HD.out, HD.out.toPc⟩
  case rest =>
  clear HB HD
  rename World => W9
  obtain ⟨HB, HD⟩ := hcut
  rename_i KK hKK
  refine hKK _ _ ?_
  exact specTail w pc qs st n cp ad ce m ca f s t 9 arg T r U V ce (st.take r) arg 0 0 0 r k13 k14 kd kA kE g1 c1 g3 c3 g4 c4 W9 _ _ _ _ _ _ _ _ _ _ _ _ _ _ _ _ _ _ _ _ _ _ _ _ _ _ _ _ _ _ _ _ _ _ _ _ _ _ _ _ _ _ _ _ _ _ _ _ _ _ _ _ _ _ _ _ _ _ _ _ _ _ _ _ _ _ _ _ _ _ _ _ _ _ _ _ _ _ _ _ _ _ _ _ _ _ _ _ _ _ _ _ _ _ _ _ _ _ _ _ _ _ _ _ _ _ _ _ _ _ _ _ _ _ _ _ _ _ _ _ _ _ _ _ _ _ _ _ _ _ _ _ _ _ _ _ _ _ _ _ _ _ _ _ _ _ _ _ _ _ _ _ _ _ _ _ _ _ _ _ _ _ _ _ _ _ _ _ _ _ _ _ _ _ _ _ _ _ _ _ _ _ _ _ _ _ _ _ _ _ _ _ _ _ _ _ _ _ _ _ _ _ _ _ _ _ _ _ _ _ _ _ _ _ _ _ _ _ _ _ _ _ _ _ _ _ _ _ _ _ _ _ _ _ _ _ _ _ _ _ _ _ _ _ _ _ _ _ _ _ _ _ _ _ _ _ _ _ _ _ _ _ _ _ _ _ _ _ _ _ hnr hru hov h60 HB.out HD.out

set_option maxRecDepth 100000 in
set_option maxHeartbeats 4000000 in
theorem swJumpBig (w : World) (pc : Int) (qs : Option Addr) (st : List Int) (n cp : Nat) (ad : Addr) (ce : List Int) (m ca : Nat) (f s t arg : Int) (T r : Nat) (U V : Int) (hrb : r ≤ 1048576) (hnr : IntKind.i64.wrap ((n : Int) - T) = (r : Int)) (hru : IntKind.i64.wrap ((r : Int) + U) = V) (hov : ¬ (8 < V)) (h60 : 60 < arg) : SwOk w pc qs st n cp ad ce m ca f s t 9 arg T r U (StepPost w m (okR 60 (st.take r) ce) (r)) := by
  intro k13 k14 kd kA kE g1 c1 g3 c3 g4 c4 W8 s0 s1 s2 s3 s6 s9 u21 u22 u23 u24 u25 u26 u27 u28 u29 u30 u31 u32 u33 u34 u35 u36 u37 u38 u39 u40 u41 u42 u43 u44 u45 u46 u47 u48 u49 u50 u51 u52 u53 u54 u55 u56 u57 u58 u59 u60 u61 u62 u63 u64 u65 u66 u67 u68 u69 u70 u71 u72 u73 u74 u75 u76 u77 u78 u79 u80 u81 u82 u83 u84 u85 u86 u87 u88 u89 u90 u91 u92 u93 u94 u95 u96 u97 u98 u99 u100 u101 u102 u103 u104 u105 u106 u107 u108 u109 u110 u111 u112 u113 u114 u115 u116 u117 u118 u119 u120 u121 u122 u123 u124 u125 u126 u127 u128 u129 u130 u131 u132 u133 u134 u135 u136 u137 u138 u139 u140 u141 u142 u143 u144 u145 u146 u147 u148 u149 u150 u151 u152 u153 u154 u155 u156 u157 u158 u159 u160 u161 u162 u163 u164 u165 u166 u167 u168 u169 u170 u171 u172 u173 u174 u175 u176 u177 u178 u179 u180 u181 u182 u183 u184 u185 u186 u187 u188 u189 u190 u191 u192 u193 u194 u195 u196 u197 u198 u199 u200 u201 u202 u203 u204 u205 u206 u207 u208 u209 u210 u211 u212 u213 u214 u215 u216 u217 u218 u219 u220 u221 u222 u223 u224 u225 u226 u227 u228 u229 u230 u231 u232 u233 u234 u235 u236 u237 u238 u239 u240 u241 u242 u243 u244 u245 u246 u247 u248 u249 u250 u251 u252 u253 u254 u255 u256 u257 u258 u259 u260 u261 u262 u263 u264 u265 u266 u267 u268 u269 u270 u271 u272 u273 u274 u275 u276 u277 u278 u279 u280 u281 u282 u283 u284 hB hD
  have HB : Hid (Bk w W8 pc (.slice qs n cp) (.slice (some ad) m ca) f s k13 g1 n c1 st k14 9 arg kA g4 m c4 ce kE 0 0 0) := hB
  have HD : Hid (Dk w W8 kd (pc + 1) g3 r c3 (st.take r) k13 g1 g4) := hD
  clear hB hD
  unfold WpSw
  change Code.wp Try.prog (Code.seq (Code.seq (Code.region 14 _ _) (Code.block 0 _)) _) _ _ _
  have ki := row2_cells HB.out.ins
  go_upto_block 0 with fail
  go_cut [] (fun wc => Hid (Bk w wc pc (.slice qs n cp) (.slice (some ad) m ca) f s k13 g1 n c1 st k14 9 arg kA g4 m c4 ce kE 0 0 0) ∧ Hid (Dk w wc kd arg g3 r c3 (st.take r) k13 g1 g4))
  case first =>
    have kdd := row2_cells HD.out.box
    go_wp2_with fail
    go_meet
    exact ⟨HB.out.setD HD.out, HD.out.toPc⟩
  case rest =>
  clear HB HD
  rename World => W9
  obtain ⟨HB, HD⟩ := hcut
  rename_i KK hKK
  refine hKK _ _ ?_
  exact specTail60 w pc qs st n cp ad ce m ca f s t 9 arg T r U V ce (st.take r) arg 0 0 0 r k13 k14 kd kA kE g1 c1 g3 c3 g4 c4 W9 _ _ _ _ _ _ _ _ _ _ _ _ _ _ _ _ _ _ _ _ _ _ _ _ _ _ _ _ _ _ _ _ _ _ _ _ _ _ _ _ _ _ _ _ _ _ _ _ _ _ _ _ _ _ _ _ _ _ _ _ _ _ _ _ _ _ _ _ _ _ _ _ _ _ _ _ _ _ _ _ _ _ _ _ _ _ _ _ _ _ _ _ _ _ _ _ _ _ _ _ _ _ _ _ _ _ _ _ _ _ _ _ _ _ _ _ _ _ _ _ _ _ _ _ _ _ _ _ _ _ _ _ _ _ _ _ _ _ _ _ _ _ _ _ _ _ _ _ _ _ _ _ _ _ _ _ _ _ _ _ _ _ _ _ _ _ _ _ _ _ _ _ _ _ _ _ _ _ _ _ _ _ _ _ _ _ _ _ _ _ _ _ _ _ _ _ _ _ _ _ _ _ _ _ _ _ _ _ _ _ _ _ _ _ _ _ _ _ _ _ _ _ _ _ _ _ _ _ _ _ _ _ _ _ _ _ _ _ _ _ _ _ _ _ _ _ _ _ _ _ _ _ _ _ _ _ _ _ _ _ _ _ _ _ _ _ _ _ _ _ hnr hru hov h60 HB.out HD.out

set_option maxRecDepth 100000 in
set_option maxHeartbeats 4000000 in
theorem swZeroNo (w : World) (pc : Int) (gq oq : Nat) (st : List Int) (n cp : Nat) (ad : Addr) (ce : List Int) (m ca : Nat) (f s t arg : Int) (T r : Nat) (U V : Int) (hrb : r ≤ 1048576) (hnr : IntKind.i64.wrap ((n : Int) - T) = (r : Int)) (hru : IntKind.i64.wrap ((r : Int) + U) = V) (x : Int) (hkx : w.cell? ⟨gq, oq + r, none⟩ = some (.int .i64 x)) (hri : r < n) (hri2 : (r : Int) < (n : Int)) (hn1 : IntKind.i64.wrap ((n : Int) - 1) = (r : Int)) (hov : ¬ (8 < V)) (h61 : ¬ (60 < pc + 1)) (hx0 : ¬ x = 0) : SwOk w pc (some ⟨gq, oq, none⟩) st n cp ad ce m ca f s t 10 arg T r U (StepPost w m (okR (pc + 1) (st.take r) ce) (r)) := by
  have HKX : Hid (_ = _) := hkx
  clear hkx
  intro k13 k14 kd kA kE g1 c1 g3 c3 g4 c4 W8 s0 s1 s2 s3 s6 s9 u21 u22 u23 u24 u25 u26 u27 u28 u29 u30 u31 u32 u33 u34 u35 u36 u37 u38 u39 u40 u41 u42 u43 u44 u45 u46 u47 u48 u49 u50 u51 u52 u53 u54 u55 u56 u57 u58 u59 u60 u61 u62 u63 u64 u65 u66 u67 u68 u69 u70 u71 u72 u73 u74 u75 u76 u77 u78 u79 u80 u81 u82 u83 u84 u85 u86 u87 u88 u89 u90 u91 u92 u93 u94 u95 u96 u97 u98 u99 u100 u101 u102 u103 u104 u105 u106 u107 u108 u109 u110 u111 u112 u113 u114 u115 u116 u117 u118 u119 u120 u121 u122 u123 u124 u125 u126 u127 u128 u129 u130 u131 u132 u133 u134 u135 u136 u137 u138 u139 u140 u141 u142 u143 u144 u145 u146 u147 u148 u149 u150 u151 u152 u153 u154 u155 u156 u157 u158 u159 u160 u161 u162 u163 u164 u165 u166 u167 u168 u169 u170 u171 u172 u173 u174 u175 u176 u177 u178 u179 u180 u181 u182 u183 u184 u185 u186 u187 u188 u189 u190 u191 u192 u193 u194 u195 u196 u197 u198 u199 u200 u201 u202 u203 u204 u205 u206 u207 u208 u209 u210 u211 u212 u213 u214 u215 u216 u217 u218 u219 u220 u221 u222 u223 u224 u225 u226 u227 u228 u229 u230 u231 u232 u233 u234 u235 u236 u237 u238 u239 u240 u241 u242 u243 u244 u245 u246 u247 u248 u249 u250 u251 u252 u253 u254 u255 u256 u257 u258 u259 u260 u261 u262 u263 u264 u265 u266 u267 u268 u269 u270 u271 u272 u273 u274 u275 u276 u277 u278 u279 u280 u281 u282 u283 u284 hB hD
  have HB : Hid (Bk w W8 pc (.slice (some ⟨gq, oq, none⟩) n cp) (.slice (some ad) m ca) f s k13 g1 n c1 st k14 10 arg kA g4 m c4 ce kE 0 0 0) := hB
  have HD : Hid (Dk w W8 kd (pc + 1) g3 r c3 (st.take r) k13 g1 g4) := hD
  clear hB hD
  unfold WpSw
  change Code.wp Try.prog (Code.seq (Code.seq (Code.region 14 _ _) (Code.block 0 _)) _) _ _ _
  have ki := row2_cells HB.out.ins
  go_upto_block 0 with fail
  go_cut [] (fun wc => Hid (Bk w wc pc (.slice (some ⟨gq, oq, none⟩) n cp) (.slice (some ad) m ca) f s k13 g1 n c1 st k14 10 arg kA g4 m c4 ce kE 0 0 0) ∧ Hid (Dk w wc kd (pc + 1) g3 r c3 (st.take r) k13 g1 g4))
  case first =>
    have kqx := bel_cell HKX.out HB.out.six.bel (Nat.le_refl _)
    have kst := row2_cells HB.out.six.1
    go_wp2_with fail
    go_meet
    exact ⟨HB, HD⟩
  case rest =>
  clear HB HD
  rename World => W9
  obtain ⟨HB, HD⟩ := hcut
  rename_i KK hKK
  refine hKK _ _ ?_
  exact specTail w pc (some ⟨gq, oq, none⟩) st n cp ad ce m ca f s t 10 arg T r U V ce (st.take r) (pc + 1) 0 0 0 r k13 k14 kd kA kE g1 c1 g3 c3 g4 c4 W9 _ _ _ _ _ _ _ _ _ _ _ _ _ _ _ _ _ _ _ _ _ _ _ _ _ _ _ _ _ _ _ _ _ _ _ _ _ _ _ _ _ _ _ _ _ _ _ _ _ _ _ _ _ _ _ _ _ _ _ _ _ _ _ _ _ _ _ _ _ _ _ _ _ _ _ _ _ _ _ _ _ _ _ _ _ _ _ _ _ _ _ _ _ _ _ _ _ _ _ _ _ _ _ _ _ _ _ _ _ _ _ _ _ _ _ _ _ _ _ _ _ _ _ _ _ _ _ _ _ _ _ _ _ _ _ _ _ _ _ _ _ _ _ _ _ _ _ _ _ _ _ _ _ _ _ _ _ _ _ _ _ _ _ _ _ _ _ _ _ _ _ _ _ _ _ _ _ _ _ _ _ _ _ _ _ _ _ _ _ _ _ _ _ _ _ _ _ _ _ _ _ _ _ _ _ _ _ _ _ _ _ _ _ _ _ _ _ _ _ _ _ _ _ _ _ _ _ _ _ _ _ _ _ _ _ _ _ _ _ _ _ _ _ _ _ _ _ _ _ _ _ _ _ _ _ _ _ _ _ _ _ _ _ _ _ _ _ _ _ _ hnr hru hov h61 HB.out HD.out

set_option maxRecDepth 100000 in
set_option maxHeartbeats 4000000 in
theorem swZero (w : World) (pc : Int) (gq oq : Nat) (st : List Int) (n cp : Nat) (ad : Addr) (ce : List Int) (m ca : Nat) (f s t arg : Int) (T r : Nat) (U V : Int) (hrb : r ≤ 1048576) (hnr : IntKind.i64.wrap ((n : Int) - T) = (r : Int)) (hru : IntKind.i64.wrap ((r : Int) + U) = V) (x : Int) (hkx : w.cell? ⟨gq, oq + r, none⟩ = some (.int .i64 x)) (hri : r < n) (hri2 : (r : Int) < (n : Int)) (hn1 : IntKind.i64.wrap ((n : Int) - 1) = (r : Int)) (hov : ¬ (8 < V)) (hx0 : x = 0) (h60 : ¬ (60 < arg)) : SwOk w pc (some ⟨gq, oq, none⟩) st n cp ad ce m ca f s t 10 arg T r U (StepPost w m (okR arg (st.take r) ce) (r)) := by
  have HKX : Hid (_ = _) := hkx
  clear hkx
  intro k13 k14 kd kA kE g1 c1 g3 c3 g4 c4 W8 s0 s1 s2 s3 s6 s9 u21 u22 u23 u24 u25 u26 u27 u28 u29 u30 u31 u32 u33 u34 u35 u36 u37 u38 u39 u40 u41 u42 u43 u44 u45 u46 u47 u48 u49 u50 u51 u52 u53 u54 u55 u56 u57 u58 u59 u60 u61 u62 u63 u64 u65 u66 u67 u68 u69 u70 u71 u72 u73 u74 u75 u76 u77 u78 u79 u80 u81 u82 u83 u84 u85 u86 u87 u88 u89 u90 u91 u92 u93 u94 u95 u96 u97 u98 u99 u100 u101 u102 u103 u104 u105 u106 u107 u108 u109 u110 u111 u112 u113 u114 u115 u116 u117 u118 u119 u120 u121 u122 u123 u124 u125 u126 u127 u128 u129 u130 u131 u132 u133 u134 u135 u136 u137 u138 u139 u140 u141 u142 u143 u144 u145 u146 u147 u148 u149 u150 u151 u152 u153 u154 u155 u156 u157 u158 u159 u160 u161 u162 u163 u164 u165 u166 u167 u168 u169 u170 u171 u172 u173 u174 u175 u176 u177 u178 u179 u180 u181 u182 u183 u184 u185 u186 u187 u188 u189 u190 u191 u192 u193 u194 u195 u196 u197 u198 u199 u200 u201 u202 u203 u204 u205 u206 u207 u208 u209 u210 u211 u212 u213 u214 u215 u216 u217 u218 u219 u220 u221 u222 u223 u224 u225 u226 u227 u228 u229 u230 u231 u232 u233 u234 u235 u236 u237 u238 u239 u240 u241 u242 u243 u244 u245 u246 u247 u248 u249 u250 u251 u252 u253 u254 u255 u256 u257 u258 u259 u260 u261 u262 u263 u264 u265 u266 u267 u268 u269 u270 u271 u272 u273 u274 u275 u276 u277 u278 u279 u280 u281 u282 u283 u284 hB hD
  have HB : Hid (Bk w W8 pc (.slice (some ⟨gq, oq, none⟩) n cp) (.slice (some ad) m ca) f s k13 g1 n c1 st k14 10 arg kA g4 m c4 ce kE 0 0 0) := hB
  have HD : Hid (Dk w W8 kd (pc + 1) g3 r c3 (st.take r) k13 g1 g4) := hD
  clear hB hD
  unfold WpSw
  change Code.wp Try.prog (Code.seq (Code.seq (Code.region 14 _ _) (Code.block 0 _)) _) _ _ _
  have ki := row2_cells HB.out.ins
  go_upto_block 0 with fail
  go_cut [] (fun wc => Hid (Bk w wc pc (.slice (some ⟨gq, oq, none⟩) n cp) (.slice (some ad) m ca) f s k13 g1 n c1 st k14 10 arg kA g4 m c4 ce kE 0 0 0) ∧ Hid (Dk w wc kd arg g3 r c3 (st.take r) k13 g1 g4))
  case first =>
    have kqx := bel_cell HKX.out HB.out.six.bel (Nat.le_refl _)
    have kst := row2_cells HB.out.six.1
    have kdd := row2_cells HD.out.box
    go_wp2_with fail
    go_meet
    exact ⟨HB.out.setD HD.out, HD.out.toPc⟩
  case rest =>
  clear HB HD
  rename World => W9
  obtain ⟨HB, HD⟩ := hcut
  rename_i KK hKK
  refine hKK _ _ ?_
  exact specTail w pc (some ⟨gq, oq, none⟩) st n cp ad ce m ca f s t 10 arg T r U V ce (st.take r) arg 0 0 0 r k13 k14 kd kA kE g1 c1 g3 c3 g4 c4 W9 _ _ _ _ _ _ _ _ _ _ _ _ _ _ _ _ _ _ _ _ _ _ _ _ _ _ _ _ _ _ _ _ _ _ _ _ _ _ _ _ _ _ _ _ _ _ _ _ _ _ _ _ _ _ _ _ _ _ _ _ _ _ _ _ _ _ _ _ _ _ _ _ _ _ _ _ _ _ _ _ _ _ _ _ _ _ _ _ _ _ _ _ _ _ _ _ _ _ _ _ _ _ _ _ _ _ _ _ _ _ _ _ _ _ _ _ _ _ _ _ _ _ _ _ _ _ _ _ _ _ _ _ _ _ _ _ _ _ _ _ _ _ _ _ _ _ _ _ _ _ _ _ _ _ _ _ _ _ _ _ _ _ _ _ _ _ _ _ _ _ _ _ _ _ _ _ _ _ _ _ _ _ _ _ _ _ _ _ _ _ _ _ _ _ _ _ _ _ _ _ _ _ _ _ _ _ _ _ _ _ _ _ _ _ _ _ _ _ _ _ _ _ _ _ _ _ _ _ _ _ _ _ _ _ _ _ _ _ _ _ _ _ _ _ _ _ _ _ _ _ _ _ _ _ _ _ _ _ _ _ _ _ _ _ _ _ _ _ _ _ hnr hru hov h60 HB.out HD.out

set_option maxRecDepth 100000 in
set_option maxHeartbeats 4000000 in
theorem swZeroBig (w : World) (pc : Int) (gq oq : Nat) (st : List Int) (n cp : Nat) (ad : Addr) (ce : List Int) (m ca : Nat) (f s t arg : Int) (T r : Nat) (U V : Int) (hrb : r ≤ 1048576) (hnr : IntKind.i64.wrap ((n : Int) - T) = (r : Int)) (hru : IntKind.i64.wrap ((r : Int) + U) = V) (x : Int) (hkx : w.cell? ⟨gq, oq + r, none⟩ = some (.int .i64 x)) (hri : r < n) (hri2 : (r : Int) < (n : Int)) (hn1 : IntKind.i64.wrap ((n : Int) - 1) = (r : Int)) (hov : ¬ (8 < V)) (hx0 : x = 0) (h60 : 60 < arg) : SwOk w pc (some ⟨gq, oq, none⟩) st n cp ad ce m ca f s t 10 arg T r U (StepPost w m (okR 60 (st.take r) ce) (r)) := by
  have HKX : Hid (_ = _) := hkx
  clear hkx
  intro k13 k14 kd kA kE g1 c1 g3 c3 g4 c4 W8 s0 s1 s2 s3 s6 s9 u21 u22 u23 u24 u25 u26 u27 u28 u29 u30 u31 u32 u33 u34 u35 u36 u37 u38 u39 u40 u41 u42 u43 u44 u45 u46 u47 u48 u49 u50 u51 u52 u53 u54 u55 u56 u57 u58 u59 u60 u61 u62 u63 u64 u65 u66 u67 u68 u69 u70 u71 u72 u73 u74 u75 u76 u77 u78 u79 u80 u81 u82 u83 u84 u85 u86 u87 u88 u89 u90 u91 u92 u93 u94 u95 u96 u97 u98 u99 u100 u101 u102 u103 u104 u105 u106 u107 u108 u109 u110 u111 u112 u113 u114 u115 u116 u117 u118 u119 u120 u121 u122 u123 u124 u125 u126 u127 u128 u129 u130 u131 u132 u133 u134 u135 u136 u137 u138 u139 u140 u141 u142 u143 u144 u145 u146 u147 u148 u149 u150 u151 u152 u153 u154 u155 u156 u157 u158 u159 u160 u161 u162 u163 u164 u165 u166 u167 u168 u169 u170 u171 u172 u173 u174 u175 u176 u177 u178 u179 u180 u181 u182 u183 u184 u185 u186 u187 u188 u189 u190 u191 u192 u193 u194 u195 u196 u197 u198 u199 u200 u201 u202 u203 u204 u205 u206 u207 u208 u209 u210 u211 u212 u213 u214 u215 u216 u217 u218 u219 u220 u221 u222 u223 u224 u225 u226 u227 u228 u229 u230 u231 u232 u233 u234 u235 u236 u237 u238 u239 u240 u241 u242 u243 u244 u245 u246 u247 u248 u249 u250 u251 u252 u253 u254 u255 u256 u257 u258 u259 u260 u261 u262 u263 u264 u265 u266 u267 u268 u269 u270 u271 u272 u273 u274 u275 u276 u277 u278 u279 u280 u281 u282 u283 u284 hB hD
  have HB : Hid (Bk w W8 pc (.slice (some ⟨gq, oq, none⟩) n cp) (.slice (some ad) m ca) f s k13 g1 n c1 st k14 10 arg kA g4 m c4 ce kE 0 0 0) := hB
  have HD : Hid (Dk w W8 kd (pc + 1) g3 r c3 (st.take r) k13 g1 g4) := hD
  clear hB hD
  unfold WpSw
  change Code.wp Try.prog (Code.seq (Code.seq (Code.region 14 _ _) (Code.block 0 _)) _) _ _ _
  have ki := row2_cells HB.out.ins
  go_upto_block 0 with fail
  go_cut [] (fun wc => Hid (Bk w wc pc (.slice (some ⟨gq, oq, none⟩) n cp) (.slice (some ad) m ca) f s k13 g1 n c1 st k14 10 arg kA g4 m c4 ce kE 0 0 0) ∧ Hid (Dk w wc kd arg g3 r c3 (st.take r) k13 g1 g4))
  case first =>
    have kqx := bel_cell HKX.out HB.out.six.bel (Nat.le_refl _)
    have kst := row2_cells HB.out.six.1
    have kdd := row2_cells HD.out.box
    go_wp2_with fail
    go_meet
    exact ⟨HB.out.setD HD.out, HD.out.toPc⟩
  case rest =>
  clear HB HD
  rename World => W9
  obtain ⟨HB, HD⟩ := hcut
  rename_i KK hKK
  refine hKK _ _ ?_
  exact specTail60 w pc (some ⟨gq, oq, none⟩) st n cp ad ce m ca f s t 10 arg T r U V ce (st.take r) arg 0 0 0 r k13 k14 kd kA kE g1 c1 g3 c3 g4 c4 W9 _ _ _ _ _ _ _ _ _ _ _ _ _ _ _ _ _ _ _ _ _ _ _ _ _ _ _ _ _ _ _ _ _ _ _ _ _ _ _ _ _ _ _ _ _ _ _ _ _ _ _ _ _ _ _ _ _ _ _ _ _ _ _ _ _ _ _ _ _ _ _ _ _ _ _ _ _ _ _ _ _ _ _ _ _ _ _ _ _ _ _ _ _ _ _ _ _ _ _ _ _ _ _ _ _ _ _ _ _ _ _ _ _ _ _ _ _ _ _ _ _ _ _ _ _ _ _ _ _ _ _ _ _ _ _ _ _ _ _ _ _ _ _ _ _ _ _ _ _ _ _ _ _ _ _ _ _ _ _ _ _ _ _ _ _ _ _ _ _ _ _ _ _ _ _ _ _ _ _ _ _ _ _ _ _ _ _ _ _ _ _ _ _ _ _ _ _ _ _ _ _ _ _ _ _ _ _ _ _ _ _ _ _ _ _ _ _ _ _ _ _ _ _ _ _ _ _ _ _ _ _ _ _ _ _ _ _ _ _ _ _ _ _ _ _ _ _ _ _ _ _ _ _ _ _ _ _ _ _ _ _ _ _ _ _ _ _ _ _ _ hnr hru hov h60 HB.out HD.out

set_option maxRecDepth 100000 in
set_option maxHeartbeats 4000000 in
theorem swTake14 (w : World) (pc : Int) (qs : Option Addr) (st : List Int) (n cp : Nat) (ad : Addr) (ce : List Int) (m ca : Nat) (f s t arg : Int) (T r : Nat) (U V : Int) (hrb : r ≤ 1048576) (hnr : IntKind.i64.wrap ((n : Int) - T) = (r : Int)) (hru : IntKind.i64.wrap ((r : Int) + U) = V) (hov : ¬ (8 < V)) (h61 : ¬ (60 < pc + 1)) : SwOk w pc qs st n cp ad ce m ca f s t 14 arg T r U (StepPost w m (⟨pc + 1, st.take r, ce, 14, arg, 0, 0⟩) (r)) := by
  intro k13 k14 kd kA kE g1 c1 g3 c3 g4 c4 W8 s0 s1 s2 s3 s6 s9 u21 u22 u23 u24 u25 u26 u27 u28 u29 u30 u31 u32 u33 u34 u35 u36 u37 u38 u39 u40 u41 u42 u43 u44 u45 u46 u47 u48 u49 u50 u51 u52 u53 u54 u55 u56 u57 u58 u59 u60 u61 u62 u63 u64 u65 u66 u67 u68 u69 u70 u71 u72 u73 u74 u75 u76 u77 u78 u79 u80 u81 u82 u83 u84 u85 u86 u87 u88 u89 u90 u91 u92 u93 u94 u95 u96 u97 u98 u99 u100 u101 u102 u103 u104 u105 u106 u107 u108 u109 u110 u111 u112 u113 u114 u115 u116 u117 u118 u119 u120 u121 u122 u123 u124 u125 u126 u127 u128 u129 u130 u131 u132 u133 u134 u135 u136 u137 u138 u139 u140 u141 u142 u143 u144 u145 u146 u147 u148 u149 u150 u151 u152 u153 u154 u155 u156 u157 u158 u159 u160 u161 u162 u163 u164 u165 u166 u167 u168 u169 u170 u171 u172 u173 u174 u175 u176 u177 u178 u179 u180 u181 u182 u183 u184 u185 u186 u187 u188 u189 u190 u191 u192 u193 u194 u195 u196 u197 u198 u199 u200 u201 u202 u203 u204 u205 u206 u207 u208 u209 u210 u211 u212 u213 u214 u215 u216 u217 u218 u219 u220 u221 u222 u223 u224 u225 u226 u227 u228 u229 u230 u231 u232 u233 u234 u235 u236 u237 u238 u239 u240 u241 u242 u243 u244 u245 u246 u247 u248 u249 u250 u251 u252 u253 u254 u255 u256 u257 u258 u259 u260 u261 u262 u263 u264 u265 u266 u267 u268 u269 u270 u271 u272 u273 u274 u275 u276 u277 u278 u279 u280 u281 u282 u283 u284 hB hD
  have HB : Hid (Bk w W8 pc (.slice qs n cp) (.slice (some ad) m ca) f s k13 g1 n c1 st k14 14 arg kA g4 m c4 ce kE 0 0 0) := hB
  have HD : Hid (Dk w W8 kd (pc + 1) g3 r c3 (st.take r) k13 g1 g4) := hD
  clear hB hD
  unfold WpSw
  change Code.wp Try.prog (Code.seq (Code.seq (Code.region 14 _ _) (Code.block 0 _)) _) _ _ _
  have ki := row2_cells HB.out.ins
  go_upto_block 0 with fail
  go_cut [] (fun wc => Hid (Bk w wc pc (.slice qs n cp) (.slice (some ad) m ca) f s k13 g1 n c1 st k14 14 arg kA g4 m c4 ce kE 14 arg 0) ∧ Hid (Dk w wc kd (pc + 1) g3 r c3 (st.take r) k13 g1 g4))
  case first =>
    have ke := row4_cells HB.out.eff
    go_wp2_with fail
    go_meet
    exact ⟨HB.out.effs, Dk.effs HB.out HD.out⟩
  case rest =>
  clear HB HD
  rename World => W9
  obtain ⟨HB, HD⟩ := hcut
  rename_i KK hKK
  refine hKK _ _ ?_
  exact specTail w pc qs st n cp ad ce m ca f s t 14 arg T r U V ce (st.take r) (pc + 1) 14 arg 0 r k13 k14 kd kA kE g1 c1 g3 c3 g4 c4 W9 _ _ _ _ _ _ _ _ _ _ _ _ _ _ _ _ _ _ _ _ _ _ _ _ _ _ _ _ _ _ _ _ _ _ _ _ _ _ _ _ _ _ _ _ _ _ _ _ _ _ _ _ _ _ _ _ _ _ _ _ _ _ _ _ _ _ _ _ _ _ _ _ _ _ _ _ _ _ _ _ _ _ _ _ _ _ _ _ _ _ _ _ _ _ _ _ _ _ _ _ _ _ _ _ _ _ _ _ _ _ _ _ _ _ _ _ _ _ _ _ _ _ _ _ _ _ _ _ _ _ _ _ _ _ _ _ _ _ _ _ _ _ _ _ _ _ _ _ _ _ _ _ _ _ _ _ _ _ _ _ _ _ _ _ _ _ _ _ _ _ _ _ _ _ _ _ _ _ _ _ _ _ _ _ _ _ _ _ _ _ _ _ _ _ _ _ _ _ _ _ _ _ _ _ _ _ _ _ _ _ _ _ _ _ _ _ _ _ _ _ _ _ _ _ _ _ _ _ _ _ _ _ _ _ _ _ _ _ _ _ _ _ _ _ _ _ _ _ _ _ _ _ _ _ _ _ _ _ _ _ _ _ _ _ _ _ _ _ _ _ hnr hru hov h61 HB.out HD.out

set_option maxRecDepth 100000 in
set_option maxHeartbeats 4000000 in
theorem swTake15 (w : World) (pc : Int) (qs : Option Addr) (st : List Int) (n cp : Nat) (ad : Addr) (ce : List Int) (m ca : Nat) (f s t arg : Int) (T r : Nat) (U V : Int) (hrb : r ≤ 1048576) (hnr : IntKind.i64.wrap ((n : Int) - T) = (r : Int)) (hru : IntKind.i64.wrap ((r : Int) + U) = V) (hov : ¬ (8 < V)) (h61 : ¬ (60 < pc + 1)) : SwOk w pc qs st n cp ad ce m ca f s t 15 arg T r U (StepPost w m (⟨pc + 1, st.take r, ce, 15, arg, 0, 0⟩) (r)) := by
  intro k13 k14 kd kA kE g1 c1 g3 c3 g4 c4 W8 s0 s1 s2 s3 s6 s9 u21 u22 u23 u24 u25 u26 u27 u28 u29 u30 u31 u32 u33 u34 u35 u36 u37 u38 u39 u40 u41 u42 u43 u44 u45 u46 u47 u48 u49 u50 u51 u52 u53 u54 u55 u56 u57 u58 u59 u60 u61 u62 u63 u64 u65 u66 u67 u68 u69 u70 u71 u72 u73 u74 u75 u76 u77 u78 u79 u80 u81 u82 u83 u84 u85 u86 u87 u88 u89 u90 u91 u92 u93 u94 u95 u96 u97 u98 u99 u100 u101 u102 u103 u104 u105 u106 u107 u108 u109 u110 u111 u112 u113 u114 u115 u116 u117 u118 u119 u120 u121 u122 u123 u124 u125 u126 u127 u128 u129 u130 u131 u132 u133 u134 u135 u136 u137 u138 u139 u140 u141 u142 u143 u144 u145 u146 u147 u148 u149 u150 u151 u152 u153 u154 u155 u156 u157 u158 u159 u160 u161 u162 u163 u164 u165 u166 u167 u168 u169 u170 u171 u172 u173 u174 u175 u176 u177 u178 u179 u180 u181 u182 u183 u184 u185 u186 u187 u188 u189 u190 u191 u192 u193 u194 u195 u196 u197 u198 u199 u200 u201 u202 u203 u204 u205 u206 u207 u208 u209 u210 u211 u212 u213 u214 u215 u216 u217 u218 u219 u220 u221 u222 u223 u224 u225 u226 u227 u228 u229 u230 u231 u232 u233 u234 u235 u236 u237 u238 u239 u240 u241 u242 u243 u244 u245 u246 u247 u248 u249 u250 u251 u252 u253 u254 u255 u256 u257 u258 u259 u260 u261 u262 u263 u264 u265 u266 u267 u268 u269 u270 u271 u272 u273 u274 u275 u276 u277 u278 u279 u280 u281 u282 u283 u284 hB hD
  have HB : Hid (Bk w W8 pc (.slice qs n cp) (.slice (some ad) m ca) f s k13 g1 n c1 st k14 15 arg kA g4 m c4 ce kE 0 0 0) := hB
  have HD : Hid (Dk w W8 kd (pc + 1) g3 r c3 (st.take r) k13 g1 g4) := hD
  clear hB hD
  unfold WpSw
  change Code.wp Try.prog (Code.seq (Code.seq (Code.region 14 _ _) (Code.block 0 _)) _) _ _ _
  have ki := row2_cells HB.out.ins
  go_upto_block 0 with fail
  go_cut [] (fun wc => Hid (Bk w wc pc (.slice qs n cp) (.slice (some ad) m ca) f s k13 g1 n c1 st k14 15 arg kA g4 m c4 ce kE 15 arg 0) ∧ Hid (Dk w wc kd (pc + 1) g3 r c3 (st.take r) k13 g1 g4))
  case first =>
    have ke := row4_cells HB.out.eff
    go_wp2_with fail
    go_meet
    exact ⟨HB.out.effs, Dk.effs HB.out HD.out⟩
  case rest =>
  clear HB HD
  rename World => W9
  obtain ⟨HB, HD⟩ := hcut
  rename_i KK hKK
  refine hKK _ _ ?_
  exact specTail w pc qs st n cp ad ce m ca f s t 15 arg T r U V ce (st.take r) (pc + 1) 15 arg 0 r k13 k14 kd kA kE g1 c1 g3 c3 g4 c4 W9 _ _ _ _ _ _ _ _ _ _ _ _ _ _ _ _ _ _ _ _ _ _ _ _ _ _ _ _ _ _ _ _ _ _ _ _ _ _ _ _ _ _ _ _ _ _ _ _ _ _ _ _ _ _ _ _ _ _ _ _ _ _ _ _ _ _ _ _ _ _ _ _ _ _ _ _ _ _ _ _ _ _ _ _ _ _ _ _ _ _ _ _ _ _ _ _ _ _ _ _ _ _ _ _ _ _ _ _ _ _ _ _ _ _ _ _ _ _ _ _ _ _ _ _ _ _ _ _ _ _ _ _ _ _ _ _ _ _ _ _ _ _ _ _ _ _ _ _ _ _ _ _ _ _ _ _ _ _ _ _ _ _ _ _ _ _ _ _ _ _ _ _ _ _ _ _ _ _ _ _ _ _ _ _ _ _ _ _ _ _ _ _ _ _ _ _ _ _ _ _ _ _ _ _ _ _ _ _ _ _ _ _ _ _ _ _ _ _ _ _ _ _ _ _ _ _ _ _ _ _ _ _ _ _ _ _ _ _ _ _ _ _ _ _ _ _ _ _ _ _ _ _ _ _ _ _ _ _ _ _ _ _ _ _ _ _ _ _ _ _ hnr hru hov h61 HB.out HD.out

set_option maxRecDepth 100000 in
set_option maxHeartbeats 4000000 in
theorem swSend13 (w : World) (pc : Int) (gq oq : Nat) (st : List Int) (n cp : Nat) (ad : Addr) (ce : List Int) (m ca : Nat) (f s t arg : Int) (T r : Nat) (U V : Int) (hrb : r ≤ 1048576) (hnr : IntKind.i64.wrap ((n : Int) - T) = (r : Int)) (hru : IntKind.i64.wrap ((r : Int) + U) = V) (x : Int) (hkx : w.cell? ⟨gq, oq + r, none⟩ = some (.int .i64 x)) (hri : r < n) (hri2 : (r : Int) < (n : Int)) (hn1 : IntKind.i64.wrap ((n : Int) - 1) = (r : Int)) (hov : ¬ (8 < V)) (h61 : ¬ (60 < pc + 1)) : SwOk w pc (some ⟨gq, oq, none⟩) st n cp ad ce m ca f s t 13 arg T r U (StepPost w m (⟨pc + 1, st.take r, ce, 13, arg, x, 0⟩) (r)) := by
  have HKX : Hid (_ = _) := hkx
  clear hkx
  intro k13 k14 kd kA kE g1 c1 g3 c3 g4 c4 W8 s0 s1 s2 s3 s6 s9 u21 u22 u23 u24 u25 u26 u27 u28 u29 u30 u31 u32 u33 u34 u35 u36 u37 u38 u39 u40 u41 u42 u43 u44 u45 u46 u47 u48 u49 u50 u51 u52 u53 u54 u55 u56 u57 u58 u59 u60 u61 u62 u63 u64 u65 u66 u67 u68 u69 u70 u71 u72 u73 u74 u75 u76 u77 u78 u79 u80 u81 u82 u83 u84 u85 u86 u87 u88 u89 u90 u91 u92 u93 u94 u95 u96 u97 u98 u99 u100 u101 u102 u103 u104 u105 u106 u107 u108 u109 u110 u111 u112 u113 u114 u115 u116 u117 u118 u119 u120 u121 u122 u123 u124 u125 u126 u127 u128 u129 u130 u131 u132 u133 u134 u135 u136 u137 u138 u139 u140 u141 u142 u143 u144 u145 u146 u147 u148 u149 u150 u151 u152 u153 u154 u155 u156 u157 u158 u159 u160 u161 u162 u163 u164 u165 u166 u167 u168 u169 u170 u171 u172 u173 u174 u175 u176 u177 u178 u179 u180 u181 u182 u183 u184 u185 u186 u187 u188 u189 u190 u191 u192 u193 u194 u195 u196 u197 u198 u199 u200 u201 u202 u203 u204 u205 u206 u207 u208 u209 u210 u211 u212 u213 u214 u215 u216 u217 u218 u219 u220 u221 u222 u223 u224 u225 u226 u227 u228 u229 u230 u231 u232 u233 u234 u235 u236 u237 u238 u239 u240 u241 u242 u243 u244 u245 u246 u247 u248 u249 u250 u251 u252 u253 u254 u255 u256 u257 u258 u259 u260 u261 u262 u263 u264 u265 u266 u267 u268 u269 u270 u271 u272 u273 u274 u275 u276 u277 u278 u279 u280 u281 u282 u283 u284 hB hD
  have HB : Hid (Bk w W8 pc (.slice (some ⟨gq, oq, none⟩) n cp) (.slice (some ad) m ca) f s k13 g1 n c1 st k14 13 arg kA g4 m c4 ce kE 0 0 0) := hB
  have HD : Hid (Dk w W8 kd (pc + 1) g3 r c3 (st.take r) k13 g1 g4) := hD
  clear hB hD
  unfold WpSw
  change Code.wp Try.prog (Code.seq (Code.seq (Code.region 14 _ _) (Code.block 0 _)) _) _ _ _
  have ki := row2_cells HB.out.ins
  go_upto_block 0 with fail
  go_cut [] (fun wc => Hid (Bk w wc pc (.slice (some ⟨gq, oq, none⟩) n cp) (.slice (some ad) m ca) f s k13 g1 n c1 st k14 13 arg kA g4 m c4 ce kE 13 arg x) ∧ Hid (Dk w wc kd (pc + 1) g3 r c3 (st.take r) k13 g1 g4))
  case first =>
    go_wp2_with fail
    clear ki
    have kqx := bel_cell HKX.out HB.out.six.bel (Nat.le_refl _)
    have ne4 : k14 ≠ kE ∧ k14 ≠ kE ∧ w.heap.size ≠ kE ∧ gq ≠ kE := ⟨rows_ne HB.out.ins HB.out.eff (by decide), rows_ne HB.out.ins HB.out.eff (by decide), (by have := HB.out.num; omega), (by have h1_ : gq < w.heap.size := World.block_lt_of_cell? w ⟨gq, oq + r, none⟩ HKX.out; have := HB.out.num; omega)⟩
    have HQ : Hid (W8.cell? ⟨k14, 0, none⟩ = some (.int .i64 13) ∧ W8.cell? ⟨k14, 1, none⟩ = some (.int .i64 arg) ∧ W8.cell? ⟨w.heap.size, 1, none⟩ = some (.slice (some ⟨gq, oq, none⟩) n cp) ∧ W8.cell? ⟨gq, oq + r, none⟩ = some (.int .i64 x)) := ⟨(row2_cells HB.out.ins).1, (row2_cells HB.out.ins).2.1, (row2_cells HB.out.six.1).2.1, kqx⟩
    have ke := row4_cells HB.out.eff
    clear kqx
    go_region_held3 (fun w' => w'.cell? ⟨k14, 0, none⟩ = some (.int .i64 13) ∧ w'.cell? ⟨k14, 1, none⟩ = some (.int .i64 arg) ∧ w'.cell? ⟨w.heap.size, 1, none⟩ = some (.slice (some ⟨gq, oq, none⟩) n cp) ∧ w'.cell? ⟨gq, oq + r, none⟩ = some (.int .i64 x)) (first | (with_reducible exact q4_drew HQ.out) | (with_reducible exact q4_drew (q4_set ne4 (q4_set ne4 (q4_set ne4 (q4_set ne4 HQ.out)))))) (fail)
    rename_i HH
    clear HH HQ ke ne4
    (try go_wp2_with fail)
    go_meet
    exact ⟨HB.out.effs.drew, (Dk.effs HB.out HD.out).drew⟩
  case rest =>
  clear HB HD
  rename World => W9
  obtain ⟨HB, HD⟩ := hcut
  rename_i KK hKK
  refine hKK _ _ ?_
  exact specTail w pc (some ⟨gq, oq, none⟩) st n cp ad ce m ca f s t 13 arg T r U V ce (st.take r) (pc + 1) 13 arg x r k13 k14 kd kA kE g1 c1 g3 c3 g4 c4 W9 _ _ _ _ _ _ _ _ _ _ _ _ _ _ _ _ _ _ _ _ _ _ _ _ _ _ _ _ _ _ _ _ _ _ _ _ _ _ _ _ _ _ _ _ _ _ _ _ _ _ _ _ _ _ _ _ _ _ _ _ _ _ _ _ _ _ _ _ _ _ _ _ _ _ _ _ _ _ _ _ _ _ _ _ _ _ _ _ _ _ _ _ _ _ _ _ _ _ _ _ _ _ _ _ _ _ _ _ _ _ _ _ _ _ _ _ _ _ _ _ _ _ _ _ _ _ _ _ _ _ _ _ _ _ _ _ _ _ _ _ _ _ _ _ _ _ _ _ _ _ _ _ _ _ _ _ _ _ _ _ _ _ _ _ _ _ _ _ _ _ _ _ _ _ _ _ _ _ _ _ _ _ _ _ _ _ _ _ _ _ _ _ _ _ _ _ _ _ _ _ _ _ _ _ _ _ _ _ _ _ _ _ _ _ _ _ _ _ _ _ _ _ _ _ _ _ _ _ _ _ _ _ _ _ _ _ _ _ _ _ _ _ _ _ _ _ _ _ _ _ _ _ _ _ _ _ _ _ _ _ _ _ _ _ _ _ _ _ _ _ hnr hru hov h61 HB.out HD.out

set_option maxRecDepth 100000 in
set_option maxHeartbeats 4000000 in
theorem swSend16 (w : World) (pc : Int) (gq oq : Nat) (st : List Int) (n cp : Nat) (ad : Addr) (ce : List Int) (m ca : Nat) (f s t arg : Int) (T r : Nat) (U V : Int) (hrb : r ≤ 1048576) (hnr : IntKind.i64.wrap ((n : Int) - T) = (r : Int)) (hru : IntKind.i64.wrap ((r : Int) + U) = V) (x : Int) (hkx : w.cell? ⟨gq, oq + r, none⟩ = some (.int .i64 x)) (hri : r < n) (hri2 : (r : Int) < (n : Int)) (hn1 : IntKind.i64.wrap ((n : Int) - 1) = (r : Int)) (hov : ¬ (8 < V)) (h61 : ¬ (60 < pc + 1)) : SwOk w pc (some ⟨gq, oq, none⟩) st n cp ad ce m ca f s t 16 arg T r U (StepPost w m (⟨pc + 1, st.take r, ce, 16, arg, x, 0⟩) (r)) := by
  have HKX : Hid (_ = _) := hkx
  clear hkx
  intro k13 k14 kd kA kE g1 c1 g3 c3 g4 c4 W8 s0 s1 s2 s3 s6 s9 u21 u22 u23 u24 u25 u26 u27 u28 u29 u30 u31 u32 u33 u34 u35 u36 u37 u38 u39 u40 u41 u42 u43 u44 u45 u46 u47 u48 u49 u50 u51 u52 u53 u54 u55 u56 u57 u58 u59 u60 u61 u62 u63 u64 u65 u66 u67 u68 u69 u70 u71 u72 u73 u74 u75 u76 u77 u78 u79 u80 u81 u82 u83 u84 u85 u86 u87 u88 u89 u90 u91 u92 u93 u94 u95 u96 u97 u98 u99 u100 u101 u102 u103 u104 u105 u106 u107 u108 u109 u110 u111 u112 u113 u114 u115 u116 u117 u118 u119 u120 u121 u122 u123 u124 u125 u126 u127 u128 u129 u130 u131 u132 u133 u134 u135 u136 u137 u138 u139 u140 u141 u142 u143 u144 u145 u146 u147 u148 u149 u150 u151 u152 u153 u154 u155 u156 u157 u158 u159 u160 u161 u162 u163 u164 u165 u166 u167 u168 u169 u170 u171 u172 u173 u174 u175 u176 u177 u178 u179 u180 u181 u182 u183 u184 u185 u186 u187 u188 u189 u190 u191 u192 u193 u194 u195 u196 u197 u198 u199 u200 u201 u202 u203 u204 u205 u206 u207 u208 u209 u210 u211 u212 u213 u214 u215 u216 u217 u218 u219 u220 u221 u222 u223 u224 u225 u226 u227 u228 u229 u230 u231 u232 u233 u234 u235 u236 u237 u238 u239 u240 u241 u242 u243 u244 u245 u246 u247 u248 u249 u250 u251 u252 u253 u254 u255 u256 u257 u258 u259 u260 u261 u262 u263 u264 u265 u266 u267 u268 u269 u270 u271 u272 u273 u274 u275 u276 u277 u278 u279 u280 u281 u282 u283 u284 hB hD
  have HB : Hid (Bk w W8 pc (.slice (some ⟨gq, oq, none⟩) n cp) (.slice (some ad) m ca) f s k13 g1 n c1 st k14 16 arg kA g4 m c4 ce kE 0 0 0) := hB
  have HD : Hid (Dk w W8 kd (pc + 1) g3 r c3 (st.take r) k13 g1 g4) := hD
  clear hB hD
  unfold WpSw
  change Code.wp Try.prog (Code.seq (Code.seq (Code.region 14 _ _) (Code.block 0 _)) _) _ _ _
  have ki := row2_cells HB.out.ins
  go_upto_block 0 with fail
  go_cut [] (fun wc => Hid (Bk w wc pc (.slice (some ⟨gq, oq, none⟩) n cp) (.slice (some ad) m ca) f s k13 g1 n c1 st k14 16 arg kA g4 m c4 ce kE 16 arg x) ∧ Hid (Dk w wc kd (pc + 1) g3 r c3 (st.take r) k13 g1 g4))
  case first =>
    go_wp2_with fail
    clear ki
    have kqx := bel_cell HKX.out HB.out.six.bel (Nat.le_refl _)
    have ne4 : k14 ≠ kE ∧ k14 ≠ kE ∧ w.heap.size ≠ kE ∧ gq ≠ kE := ⟨rows_ne HB.out.ins HB.out.eff (by decide), rows_ne HB.out.ins HB.out.eff (by decide), (by have := HB.out.num; omega), (by have h1_ : gq < w.heap.size := World.block_lt_of_cell? w ⟨gq, oq + r, none⟩ HKX.out; have := HB.out.num; omega)⟩
    have HQ : Hid (W8.cell? ⟨k14, 0, none⟩ = some (.int .i64 16) ∧ W8.cell? ⟨k14, 1, none⟩ = some (.int .i64 arg) ∧ W8.cell? ⟨w.heap.size, 1, none⟩ = some (.slice (some ⟨gq, oq, none⟩) n cp) ∧ W8.cell? ⟨gq, oq + r, none⟩ = some (.int .i64 x)) := ⟨(row2_cells HB.out.ins).1, (row2_cells HB.out.ins).2.1, (row2_cells HB.out.six.1).2.1, kqx⟩
    have ke := row4_cells HB.out.eff
    clear kqx
    go_region_held3 (fun w' => w'.cell? ⟨k14, 0, none⟩ = some (.int .i64 16) ∧ w'.cell? ⟨k14, 1, none⟩ = some (.int .i64 arg) ∧ w'.cell? ⟨w.heap.size, 1, none⟩ = some (.slice (some ⟨gq, oq, none⟩) n cp) ∧ w'.cell? ⟨gq, oq + r, none⟩ = some (.int .i64 x)) (first | (with_reducible exact q4_drew HQ.out) | (with_reducible exact q4_drew (q4_set ne4 (q4_set ne4 (q4_set ne4 (q4_set ne4 HQ.out)))))) (fail)
    rename_i HH
    clear HH HQ ke ne4
    (try go_wp2_with fail)
    go_meet
    exact ⟨HB.out.effs.drew, (Dk.effs HB.out HD.out).drew⟩
  case rest =>
  clear HB HD
  rename World => W9
  obtain ⟨HB, HD⟩ := hcut
  rename_i KK hKK
  refine hKK _ _ ?_
  exact specTail w pc (some ⟨gq, oq, none⟩) st n cp ad ce m ca f s t 16 arg T r U V ce (st.take r) (pc + 1) 16 arg x r k13 k14 kd kA kE g1 c1 g3 c3 g4 c4 W9 _ _ _ _ _ _ _ _ _ _ _ _ _ _ _ _ _ _ _ _ _ _ _ _ _ _ _ _ _ _ _ _ _ _ _ _ _ _ _ _ _ _ _ _ _ _ _ _ _ _ _ _ _ _ _ _ _ _ _ _ _ _ _ _ _ _ _ _ _ _ _ _ _ _ _ _ _ _ _ _ _ _ _ _ _ _ _ _ _ _ _ _ _ _ _ _ _ _ _ _ _ _ _ _ _ _ _ _ _ _ _ _ _ _ _ _ _ _ _ _ _ _ _ _ _ _ _ _ _ _ _ _ _ _ _ _ _ _ _ _ _ _ _ _ _ _ _ _ _ _ _ _ _ _ _ _ _ _ _ _ _ _ _ _ _ _ _ _ _ _ _ _ _ _ _ _ _ _ _ _ _ _ _ _ _ _ _ _ _ _ _ _ _ _ _ _ _ _ _ _ _ _ _ _ _ _ _ _ _ _ _ _ _ _ _ _ _ _ _ _ _ _ _ _ _ _ _ _ _ _ _ _ _ _ _ _ _ _ _ _ _ _ _ _ _ _ _ _ _ _ _ _ _ _ _ _ _ _ _ _ _ _ _ _ _ _ _ _ _ _ hnr hru hov h61 HB.out HD.out
end Go.Proofs.Ythnocibkgpofnaa
