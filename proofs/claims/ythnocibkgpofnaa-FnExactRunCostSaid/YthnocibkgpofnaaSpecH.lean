/-
  The specification's step up to its switch: what every instruction begins with.
-/
import Derived.Test.YthnocibkgpofnaaSpecD
import Derived.Deep.CutBlock
namespace Go.Proofs.Ythnocibkgpofnaa
open Go.RowKit Go.PlainAid
set_option linter.unusedVariables false
def codeHd : Code → Code
  | .seq c _ => c
  | c => c
def codeTl : Code → Code
  | .seq _ c => c
  | c => c
/-- the code of a step from its switch on -/
def WpSw (Q : Exit → Act → World → Prop) (a : Act) (w : World) : Prop := Code.wp Try.prog (codeTl (codeTl (codeTl (codeTl (codeTl (codeTl (codeTl (codeTl (codeTl (codeTl (codeTl (Try.f28.body.getD .skip))))))))))) ) Q a w
/-- .. and behind the switch -/
def WpEnd (Q : Exit → Act → World → Prop) (a : Act) (w : World) : Prop := Code.wp Try.prog (codeTl (codeTl (codeTl (codeTl (codeTl (codeTl (codeTl (codeTl (codeTl (codeTl (codeTl (codeTl (Try.f28.body.getD .skip)))))))))))) ) Q a w
set_option maxRecDepth 100000 in
/-- the switch and all behind it, for a machine's boxes as they lie there -/
def SwOk (w : World) (pc : Int) (qs : Option Addr) (st : List Int) (n cp : Nat) (ad : Addr) (ce : List Int) (m ca : Nat) (f s t op arg : Int) (T r : Nat) (U : Int) (Post : Ending → World → Prop) : Prop :=
  ∀ (k13 k14 kd kA kE g1 c1 g3 c3 g4 c4 : Nat) (W8 : World) (s0 s1 s2 s3 s6 s9 u21 u22 u23 u24 u25 u26 u27 u28 u29 u30 u31 u32 u33 u34 u35 u36 u37 u38 u39 u40 u41 u42 u43 u44 u45 u46 u47 u48 u49 u50 u51 u52 u53 u54 u55 u56 u57 u58 u59 u60 u61 u62 u63 u64 u65 u66 u67 u68 u69 u70 u71 u72 u73 u74 u75 u76 u77 u78 u79 u80 u81 u82 u83 u84 u85 u86 u87 u88 u89 u90 u91 u92 u93 u94 u95 u96 u97 u98 u99 u100 u101 u102 u103 u104 u105 u106 u107 u108 u109 u110 u111 u112 u113 u114 u115 u116 u117 u118 u119 u120 u121 u122 u123 u124 u125 u126 u127 u128 u129 u130 u131 u132 u133 u134 u135 u136 u137 u138 u139 u140 u141 u142 u143 u144 u145 u146 u147 u148 u149 u150 u151 u152 u153 u154 u155 u156 u157 u158 u159 u160 u161 u162 u163 u164 u165 u166 u167 u168 u169 u170 u171 u172 u173 u174 u175 u176 u177 u178 u179 u180 u181 u182 u183 u184 u185 u186 u187 u188 u189 u190 u191 u192 u193 u194 u195 u196 u197 u198 u199 u200 u201 u202 u203 u204 u205 u206 u207 u208 u209 u210 u211 u212 u213 u214 u215 u216 u217 u218 u219 u220 u221 u222 u223 u224 u225 u226 u227 u228 u229 u230 u231 u232 u233 u234 u235 u236 u237 u238 u239 u240 u241 u242 u243 u244 u245 u246 u247 u248 u249 u250 u251 u252 u253 u254 u255 u256 u257 u258 u259 u260 u261 u262 u263 u264 u265 u266 u267 u268 u269 u270 u271 u272 u273 u274 u275 u276 u277 u278 u279 u280 u281 u282 u283 u284 : Value), Bk w W8 pc (.slice qs n cp) (.slice (some ad) m ca) f s k13 g1 n c1 st k14 op arg kA g4 m c4 ce kE 0 0 0 → Dk w W8 kd (pc + 1) g3 r c3 (st.take r) k13 g1 g4 →
    WpSw (bodyPost Try.prog Try.f28 Post) ⟨List.toArray (s0 :: s1 :: s2 :: s3 :: Value.int .i64 t :: Value.pointer (some ⟨w.heap.size, 0, none⟩) :: s6 :: Value.pointer (some ⟨w.heap.size + 1, 0, none⟩) :: Value.pointer (some ⟨w.heap.size + 1 + 1, 0, none⟩) :: s9 :: Value.pointer (some ⟨w.heap.size + 1 + 1 + 1, 0, none⟩) :: Value.pointer (some ⟨w.heap.size + 1 + 1 + 1 + 1, 0, none⟩) :: Value.pointer (some ⟨w.heap.size + 1 + 1 + 1 + 1 + 1, 0, none⟩) :: Value.pointer (some ⟨k13, 0, none⟩) :: Value.pointer (some ⟨k14, 0, none⟩) :: Value.int .i64 (T : Int) :: Value.int .i64 U :: Value.int .i64 (n : Int) :: Value.pointer (some ⟨kd, 0, none⟩) :: Value.pointer (some ⟨kA, 0, none⟩) :: Value.pointer (some ⟨kE, 0, none⟩) :: u21 :: u22 :: u23 :: u24 :: u25 :: u26 :: u27 :: u28 :: u29 :: u30 :: u31 :: u32 :: u33 :: u34 :: u35 :: u36 :: u37 :: u38 :: u39 :: u40 :: u41 :: u42 :: u43 :: u44 :: u45 :: u46 :: u47 :: u48 :: u49 :: u50 :: u51 :: u52 :: u53 :: u54 :: u55 :: u56 :: u57 :: u58 :: u59 :: u60 :: u61 :: u62 :: u63 :: u64 :: u65 :: u66 :: u67 :: u68 :: u69 :: u70 :: u71 :: u72 :: u73 :: u74 :: u75 :: u76 :: u77 :: u78 :: u79 :: u80 :: u81 :: u82 :: u83 :: u84 :: u85 :: u86 :: u87 :: u88 :: u89 :: u90 :: u91 :: u92 :: u93 :: u94 :: u95 :: u96 :: u97 :: u98 :: u99 :: u100 :: u101 :: u102 :: u103 :: u104 :: u105 :: u106 :: u107 :: u108 :: u109 :: u110 :: u111 :: u112 :: u113 :: u114 :: u115 :: u116 :: u117 :: u118 :: u119 :: u120 :: u121 :: u122 :: u123 :: u124 :: u125 :: u126 :: u127 :: u128 :: u129 :: u130 :: u131 :: u132 :: u133 :: u134 :: u135 :: u136 :: u137 :: u138 :: u139 :: u140 :: u141 :: u142 :: u143 :: u144 :: u145 :: u146 :: u147 :: u148 :: u149 :: u150 :: u151 :: u152 :: u153 :: u154 :: u155 :: u156 :: u157 :: u158 :: u159 :: u160 :: u161 :: u162 :: u163 :: u164 :: u165 :: u166 :: u167 :: u168 :: u169 :: u170 :: u171 :: u172 :: u173 :: u174 :: u175 :: u176 :: u177 :: u178 :: u179 :: u180 :: u181 :: u182 :: u183 :: u184 :: u185 :: u186 :: u187 :: u188 :: u189 :: u190 :: u191 :: u192 :: u193 :: u194 :: u195 :: u196 :: u197 :: u198 :: u199 :: u200 :: u201 :: u202 :: u203 :: u204 :: u205 :: u206 :: u207 :: u208 :: u209 :: u210 :: u211 :: u212 :: u213 :: u214 :: u215 :: u216 :: u217 :: u218 :: u219 :: u220 :: u221 :: u222 :: u223 :: u224 :: u225 :: u226 :: u227 :: u228 :: u229 :: u230 :: u231 :: u232 :: u233 :: u234 :: u235 :: u236 :: u237 :: u238 :: u239 :: u240 :: u241 :: u242 :: u243 :: u244 :: u245 :: u246 :: u247 :: u248 :: u249 :: u250 :: u251 :: u252 :: u253 :: u254 :: u255 :: u256 :: u257 :: u258 :: u259 :: u260 :: u261 :: u262 :: u263 :: u264 :: u265 :: u266 :: u267 :: u268 :: u269 :: u270 :: u271 :: u272 :: u273 :: u274 :: u275 :: u276 :: u277 :: u278 :: u279 :: u280 :: u281 :: u282 :: u283 :: u284 :: List.nil), []⟩ W8
set_option maxRecDepth 100000 in
set_option maxHeartbeats 4000000 in
theorem specHead (qs : Option Addr) (pc : Int) (st : List Int) (n cp : Nat) (qc : Option Addr) (rl : List (Int × Int)) (nc cc : Nat) (ad : Addr) (ce : List Int) (m ca : Nat) (f s t : Int) (hl : st.length = n) (hn : n ≤ 1048576) (hqs : qs = none → n = 0 ∧ cp = 0) (hlc : rl.length = nc) (hnc : nc ≤ 1048576) (hla : ce.length = m) (hm : m ≤ 1048576) (j : Nat) (op arg : Int) (hc : CpuR pc st) (hk : I.CodeR rl) (hj : pc = j) (hjl : j < nc) (hx : rl[j]? = some (op, arg)) (o T r : Nat) (U : Int) (hoo : op = o) (ho : o < 18) (hT : needL.getD o 0 = (T : Int)) (hU : putL.getD o 0 = U) (hr2 : n = r + T) (hncp : n ≤ cp) (w : World) (hr : Rd w qs st) (hrc : I.RdR w qc rl) (hra : Rd w (some ad) ce) (Post : Ending → World → Prop) (h : SwOk w pc qs st n cp ad ce m ca f s t op arg T r U Post) :
    Calls Try.prog 28 #[.agg #[.int .i64 pc, .slice qs n cp], .slice qc nc cc, .agg #[.slice (some ad) m ca], .agg #[.int .i64 f, .int .i64 s], .int .i64 t] w Post := by
  subst hoo
  have HH0 : Hid (SwOk w pc qs st n cp ad ce m ca f s t (o : Int) arg T r U Post) := h
  clear h
  have HC : Hid (CpuR pc st) := hc
  have HK : Hid (I.CodeR rl) := hk
  have HI : Hid (rl[j]? = some ((o : Int), arg)) := hx
  have hp0 : 0 ≤ pc ∧ pc < 60 := by have h_ := hk.1; omega
  clear hc hk hx
  subst hj
  have HH := HH0
  clear HH0
  have HT : Hid (needL.getD o 0 = (T : Int) ∧ putL.getD o 0 = U) := ⟨hT, hU⟩
  have hge : ¬ ((n : Int) < T) := by omega
  have hnr : IntKind.i64.wrap ((n : Int) - T) = r := (wrap_in (by omega) (by omega)).trans (by omega)
  have hj1 : IntKind.i64.wrap ((j : Int) + 1) = j + 1 := wrap_in (by omega) (by omega)
  have hj60 : ¬ (60 < (j : Int) + 1) := by omega
  have hrc1 : r ≤ cp := by omega
  have hrc2 : (r : Int) ≤ (cp : Int) := by omega
  have hrn : r ≤ n := by omega
  have HR2 : Hid (n = r + T) := hr2
  clear hT hU hr2
  have HX0 : Hid (Six w _ (j : Int) (.slice qs n cp) (.slice (some ad) m ca) f s) := six_is w (j : Int) (.slice qs n cp) (.slice (some ad) m ca) f s
  have HR : Hid (Rd w qs st) := hr
  have HRC : Hid (I.RdR w qc rl) := hrc
  have HRA : Hid (Rd w (some ad) ce) := hra
  have HL : Hid (st.length = n) := hl
  have HLC : Hid (rl.length = nc) := hlc
  have HLA : Hid (ce.length = m) := hla
  have HQS : Hid (qs = none → n = 0 ∧ cp = 0) := hqs
  obtain ⟨b0, hB0⟩ := cpu_bool (j : Int) st
  have HB0 : Hid (b0 = true ↔ CpuR (j : Int) st) := hB0
  obtain ⟨b1, hB1⟩ := I.code_bool rl
  have HB1 : Hid (b1 = true ↔ I.CodeR rl) := hB1
  clear hr hrc hra hl hlc hla hqs hB0 hB1
  go_enter Try.func28, Try.ntmps28
  go_wp2_with fail
  refine (copyCS qs (j : Int) st n cp HL.out hn HQS.out _ (HR.out.keep HX0.out.bel (Nat.le_refl _))).mono ?_
  rintro e w1 ⟨g1, c1, rfl, hown1, hb1⟩
  have s0 := HX0.out.lt
  have s1 := hb1.size
  have hge1 := hown1.ge
  have HX1 : Hid (Six w (w1.alloc (.cells #[.int .i64 (j : Int), .slice (some ⟨g1, 0, none⟩) n c1] 55)) (j : Int) (.slice qs n cp) (.slice (some ad) m ca) f s) := (HX0.out.on hb1).on (al1_b _ _)
  have HS1 : Hid ((w1.alloc (.cells #[.int .i64 (j : Int), .slice (some ⟨g1, 0, none⟩) n c1] 55)).heap[w1.heap.size]? = some (.cells #[.int .i64 (j : Int), .slice (some ⟨g1, 0, none⟩) n c1] 55)) := heap_new w1 _
  have HO1 : Hid (OwnN (w1.alloc (.cells #[.int .i64 (j : Int), .slice (some ⟨g1, 0, none⟩) n c1] 55)) w.heap.size g1 n c1 st) := (hown1.mono (by omega)).alloc _
  have HK13 : Hid (w.heap.size + 6 ≤ w1.heap.size) := by show _ ≤ _; omega
  have HG1 : Hid (w.heap.size + 6 ≤ g1) := by show _ ≤ _; omega
  clear hown1 hb1 HX0 hge1 s0 s1
  have kx := row2_cells HX1.out.1
  go_wp2_with fail
  clear kx
  refine (cpuokS qs (j : Int) st n cp b0 HL.out (by omega) HB0.out _ (HR.out.keep HX1.out.bel (Nat.le_refl _))).mono ?_
  rintro e w2 ⟨rfl, hb2⟩
  have HX2 : Hid (Six w w2 (j : Int) (.slice qs n cp) (.slice (some ad) m ca) f s) := HX1.out.on hb2
  have HS2 : Hid (w2.heap[w1.heap.size]? = _) := row_on HS1.out hb2
  have HO2 : Hid (OwnN w2 w.heap.size g1 n c1 st) := HO1.out.on hb2
  clear hb2 HX1 HS1 HO1
  obtain rfl : b0 = true := HB0.out.2 HC.out
  obtain rfl : b1 = true := HB1.out.2 HK.out
  go_wp2_with fail
  refine (I.codeokS qc rl nc cc true HLC.out (by omega) ⟨fun _ => HK.out, fun _ => rfl⟩ _ (HRC.out.keep HX2.out.bel (Nat.le_refl _))).mono ?_
  rintro e w3 ⟨rfl, rfl⟩
  have hjr : j < rl.length := by have := HLC.out; omega
  obtain ⟨gc, offc, hac, hcc⟩ := (HRC.out.keep HX2.out.bel (Nat.le_refl _)) (by omega)
  subst hac
  have hcj := hcc j hjr
  have hxx : rl[j] = ((o : Int), arg) := by have := HI.out; rw [List.getElem?_eq_getElem hjr] at this; exact Option.some.inj this
  rw [hxx] at hcj
  have hcl : gc < w3.heap.size := World.block_lt_of_cell? w3 ⟨gc, offc + j * 2, none⟩ hcj.1
  clear hcc hxx hjr
  have kx := row2_cells HX2.out.1
  have HX4 : Hid (Six w (w3.alloc (.cells #[.int .i64 (o : Int), .int .i64 arg] 51)) (j : Int) (.slice qs n cp) (.slice (some ad) m ca) f s) := HX2.out.on (al1_b _ _)
  have HS4 : Hid ((w3.alloc (.cells #[.int .i64 (o : Int), .int .i64 arg] 51)).heap[w1.heap.size]? = _) := row_al HS2.out
  have HO4 : Hid (OwnN (w3.alloc (.cells #[.int .i64 (o : Int), .int .i64 arg] 51)) w.heap.size g1 n c1 st) := HO2.out.alloc _
  have HI4 : Hid ((w3.alloc (.cells #[.int .i64 (o : Int), .int .i64 arg] 51)).heap[w3.heap.size]? = some (.cells #[.int .i64 (o : Int), .int .i64 arg] 51)) := heap_new w3 _
  have HK14 : Hid (w1.heap.size < w3.heap.size ∧ g1 < w3.heap.size) := ⟨row_lt HS2.out, HO2.out.lt⟩
  clear HX2 HS2 HO2
  have kx4 := row2_cells HI4.out
  go_wp2_with fail
  clear kx kx4
  refine (needS o ho _).mono ?_
  rintro e w5 ⟨rfl, hb5⟩
  rw [HT.out.1, HT.out.2]
  have HX := HX4.out.on hb5
  have HX5 : Hid (Six w w5 (j : Int) (.slice qs n cp) (.slice (some ad) m ca) f s) := HX
  have HS5 : Hid (w5.heap[w1.heap.size]? = _) := row_on HS4.out hb5
  have HO5 : Hid (OwnN w5 w.heap.size g1 n c1 st) := HO4.out.on hb5
  have HI5 : Hid (w5.heap[w3.heap.size]? = _) := row_on HI4.out hb5
  clear hb5 HX HX4 HS4 HO4 HI4
  have kx := row2_cells HX5.out.1
  go_wp2_with fail
  clear kx
  have Q0 : Hid (w5.cell? ⟨w.heap.size, 0, none⟩ = some (.int .i64 (j : Int))) := (row2_cells HX5.out.1).1
  have Q1 : Hid (w5.cell? ⟨w.heap.size, 1, none⟩ = some (.slice qs n cp)) := (row2_cells HX5.out.1).2.1
  have HR5 : Hid (Rd w5 qs (st.take r)) := rd_take (HR.out.keep HX5.out.bel (Nat.le_refl _)) r
  have HLr : Hid ((st.take r).length = r) := by show _ = _; rw [List.length_take, HL.out]; omega
  have HQr : Hid (qs = none → r = 0 ∧ cp = 0) := fun h => ⟨by have := (HQS.out h).1; omega, (HQS.out h).2⟩
  have hdec : decide (n < T) = false := decide_eq_false (by omega)
  go_cut [18] (fun o1 wc => ∃ (kd g3 c3 : Nat), o1 = .pointer (some ⟨kd, 0, none⟩) ∧ Hid (MidB w5 wc kd g3 c3 r (j + 1 : Int) (st.take r)))
  case first =>
    refine wp_region_held_drew (S := fun w' => Below w5.heap.size w5 w') (by kernel_rfl) (Below.refl _ _).drew (fun hHeld => ?_)
    refine wpAnyH_take (i := 0) (v := ?_) rfl (by kernel_rfl) (by kernel_rfl) (by kernel_rfl) (fun _ _ _ h => h) (Or.inl ⟨by rfl, ?_⟩) (by assumption) ?_
    rotate_left
    · intro w hSw; (try dsimp only at hSw); have q0_ := cell_on Q0.out hSw; have q1_ := cell_on Q1.out hSw; go_simp <;> with_reducible rfl
    simp only [Act.put, List.setIfInBounds_toArray, List.set_cons_zero, List.set_cons_succ, List.getElem_toArray, List.getElem_cons_zero]
    refine wpAnyH_take (i := 1) (v := ?_) rfl (by kernel_rfl) (by kernel_rfl) (by kernel_rfl) (fun _ _ _ h => h) (Or.inl ⟨by rfl, ?_⟩) (by assumption) ?_
    rotate_left
    · intro w hSw; (try dsimp only at hSw); have q0_ := cell_on Q0.out hSw; have q1_ := cell_on Q1.out hSw; go_simp <;> with_reducible rfl
    simp only [Act.put, List.setIfInBounds_toArray, List.set_cons_zero, List.set_cons_succ, List.getElem_toArray, List.getElem_cons_zero, List.getElem_cons_succ]
    refine wpAnyH_take (i := 2) (v := .int .i64 (j + 1 : Int)) rfl (by kernel_rfl) (by kernel_rfl) (by kernel_rfl) (fun _ _ _ h => h) (Or.inl ⟨by rfl, ?_⟩) (by assumption) ?_
    · intro w hSw; (try dsimp only at hSw); have q0_ := cell_on Q0.out hSw; have q1_ := cell_on Q1.out hSw; go_simp
    simp only [Act.put, List.setIfInBounds_toArray, List.set_cons_zero, List.set_cons_succ, List.getElem_toArray, List.getElem_cons_zero, List.getElem_cons_succ]
    refine wpAnyH_take (i := 4) (v := ?_) rfl (by kernel_rfl) (by kernel_rfl) (by kernel_rfl) (fun _ _ _ h => h) (Or.inl ⟨by rfl, ?_⟩) (by assumption) ?_
    rotate_left
    · intro w hSw; (try dsimp only at hSw); have q0_ := cell_on Q0.out hSw; have q1_ := cell_on Q1.out hSw; go_simp <;> with_reducible rfl
    simp only [Act.put, List.setIfInBounds_toArray, List.set_cons_zero, List.set_cons_succ, List.getElem_toArray, List.getElem_cons_zero, List.getElem_cons_succ]
    refine wpAnyH_take (i := 5) (v := ?_) rfl (by kernel_rfl) (by kernel_rfl) (by kernel_rfl) (fun _ _ _ h => h) (Or.inl ⟨by rfl, ?_⟩) (by assumption) ?_
    rotate_left
    · intro w hSw; (try dsimp only at hSw); have q0_ := cell_on Q0.out hSw; have q1_ := cell_on Q1.out hSw; go_simp <;> with_reducible rfl
    simp only [Act.put, List.setIfInBounds_toArray, List.set_cons_zero, List.set_cons_succ, List.getElem_toArray, List.getElem_cons_zero, List.getElem_cons_succ]
    refine wpAnyH_take (i := 6) (v := ?_) rfl (by kernel_rfl) (by kernel_rfl) (by kernel_rfl) (fun _ _ _ h => h) (Or.inl ⟨by rfl, ?_⟩) (by assumption) ?_
    rotate_left
    · intro w hSw; (try dsimp only at hSw); have q0_ := cell_on Q0.out hSw; have q1_ := cell_on Q1.out hSw; go_simp <;> with_reducible rfl
    simp only [Act.put, List.setIfInBounds_toArray, List.set_cons_zero, List.set_cons_succ, List.getElem_toArray, List.getElem_cons_zero, List.getElem_cons_succ]
    refine wpAnyH_take (i := 7) (v := ?_) rfl (by kernel_rfl) (by kernel_rfl) (by kernel_rfl) (fun _ _ _ h => h) (Or.inl ⟨by rfl, ?_⟩) (by assumption) ?_
    rotate_left
    · intro w hSw; (try dsimp only at hSw); have q0_ := cell_on Q0.out hSw; have q1_ := cell_on Q1.out hSw; go_simp <;> with_reducible rfl
    simp only [Act.put, List.setIfInBounds_toArray, List.set_cons_zero, List.set_cons_succ, List.getElem_toArray, List.getElem_cons_zero, List.getElem_cons_succ]
    refine wpAnyH_take (i := 8) (v := .int .i64 (r : Int)) rfl (by kernel_rfl) (by kernel_rfl) (by kernel_rfl) (fun _ _ _ h => h) (Or.inl ⟨by rfl, ?_⟩) (by assumption) ?_
    · intro w hSw; (try dsimp only at hSw); have q0_ := cell_on Q0.out hSw; have q1_ := cell_on Q1.out hSw; go_simp
    simp only [Act.put, List.setIfInBounds_toArray, List.set_cons_zero, List.set_cons_succ, List.getElem_toArray, List.getElem_cons_zero, List.getElem_cons_succ]
    refine wpAnyH_take (i := 9) (v := .slice qs r cp) rfl (by kernel_rfl) (by kernel_rfl) (by kernel_rfl) (fun _ _ _ h => h) (Or.inl ⟨by rfl, ?_⟩) (by assumption) ?_
    · intro w hSw; (try dsimp only at hSw); have q0_ := cell_on Q0.out hSw; have q1_ := cell_on Q1.out hSw; go_simp; first | (simp [hrc1, hrc2]; done) | skip
    simp only [Act.put, List.setIfInBounds_toArray, List.set_cons_zero, List.set_cons_succ, List.getElem_toArray, List.getElem_cons_zero, List.getElem_cons_succ]
    simp only [hdec]
    clear hdec
    refine wpAnyH_named (fun a0 ha0 => ?_)
    have HA0 : Hid (a0 = _) := ha0
    clear ha0
    refine main_go1 (L := (fun x => #[true, true, true, false, true, true, true, true, true, true, false, false, x, false])) (St := (fun x a w => ∃ (vx : Value), a = (a0.put (some 18) vx) ∧ VB w5 x vx w zCpu)) (K := 4) ?h (by kernel_rfl) (by decide) (by assumption) ⟨a0.tmps.getD 18 undef, (by simp only [put_self]), VB.no _ _ _ _⟩
    case h =>
      refine stage1 (i1 := 12) (c := 3) (fun x => #[true, true, true, false, true, true, true, true, true, true, false, false, x, false]) (fun x => #[true, true, true, true, true, true, true, true, true, true, false, false, x, false]) (fun x a w => ∃ (vx : Value), a = (a0.put (some 18) vx) ∧ VB w5 x vx w zCpu) (fun x a w => ∃ (vx : Value) (g : Nat), a = ((a0.put (some 79) (.slice (some ⟨g, 0, none⟩) 0 0)).put (some 18) vx) ∧ Hid (OwnN w w5.heap.size g 0 0 []) ∧ VB w5 x vx w zCpu) 3 ?_ ?_ ?_ ?_ ?_ ?_ ?_
      · intro x i hi
        cases x
        · have e_ := mem_kernel (rs := [3, 12]) (by kernel_rfl) hi; (first | (simp at e_ ⊢; done) | (simp at e_ ⊢; omega))
        · have e_ := mem_kernel (rs := [3]) (by kernel_rfl) hi; (first | (simp at e_ ⊢; done) | (simp at e_ ⊢; omega))
      · intro x; cases x
        · exact ne_kernel (rs := [3, 12]) (by kernel_rfl) (by simp)
        · exact ne_kernel (rs := [3]) (by kernel_rfl) (by simp)
      · kernel_rfl
      · intro x; cases x <;> kernel_rfl
      · rintro a w hSw ⟨vx, rfl, bx⟩
        refine wpOp_step (i := 12) rfl (fun K hK => ?_)
        have HK : Shut _ := hK
        clear hK
        rw [HA0.out]
        simp only [Act.put, List.setIfInBounds_toArray, List.set_cons_zero, List.set_cons_succ]
        go_simp
        exact HK.out _ _ ⟨bel_on (Nat.le_refl _) hSw (al1_b w zCpu), _, (by rw [HA0.out]; simp only [Act.put, List.setIfInBounds_toArray, List.set_cons_zero, List.set_cons_succ] <;> (first | with_reducible rfl | rfl)), VB.new hSw⟩
      · rintro x a w hSw ⟨vx, rfl, bx⟩
        refine wpOp_step (i := 3) rfl (fun K hK => ?_)
        have HK : Shut _ := hK
        clear hK
        rw [HA0.out]
        simp only [Act.put, List.setIfInBounds_toArray, List.set_cons_zero, List.set_cons_succ]
        go_simp
        exact HK.out _ _ ⟨bel_on (Nat.le_refl _) hSw (al1_b w _), vx, w.heap.size, (by rw [HA0.out]; simp only [Act.put, List.setIfInBounds_toArray, List.set_cons_zero, List.set_cons_succ] <;> (first | with_reducible rfl | rfl)), hid (own_new w _ hSw.size), bx.on (al1_b w _)⟩
      refine stage1 (i1 := 12) (c := 10) (fun x => #[true, true, true, true, true, true, true, true, true, true, false, false, x, false]) (fun x => #[true, true, true, true, true, true, true, true, true, true, true, false, x, false]) (fun x a w => ∃ (vx : Value) (g : Nat), a = ((a0.put (some 79) (.slice (some ⟨g, 0, none⟩) 0 0)).put (some 18) vx) ∧ Hid (OwnN w w5.heap.size g 0 0 []) ∧ VB w5 x vx w zCpu) (fun x a w => ∃ (vx : Value) (g g3 c3 : Nat), a = (((a0.put (some 79) (.slice (some ⟨g, 0, none⟩) 0 0)).put (some 86) (.slice (some ⟨g3, 0, none⟩) r c3)).put (some 18) vx) ∧ Hid (OwnN w w5.heap.size g3 r c3 (st.take r)) ∧ VB w5 x vx w zCpu) 2 ?_ ?_ ?_ ?_ ?_ ?_ ?_
      · intro x i hi
        cases x
        · have e_ := mem_kernel (rs := [10, 12]) (by kernel_rfl) hi; (first | (simp at e_ ⊢; done) | (simp at e_ ⊢; omega))
        · have e_ := mem_kernel (rs := [10]) (by kernel_rfl) hi; (first | (simp at e_ ⊢; done) | (simp at e_ ⊢; omega))
      · intro x; cases x
        · exact ne_kernel (rs := [10, 12]) (by kernel_rfl) (by simp)
        · exact ne_kernel (rs := [10]) (by kernel_rfl) (by simp)
      · kernel_rfl
      · intro x; cases x <;> kernel_rfl
      · rintro a w hSw ⟨vx, g, rfl, Ho, bx⟩
        refine wpOp_step (i := 12) rfl (fun K hK => ?_)
        have HK : Shut _ := hK
        clear hK
        rw [HA0.out]
        simp only [Act.put, List.setIfInBounds_toArray, List.set_cons_zero, List.set_cons_succ]
        go_simp
        exact HK.out _ _ ⟨bel_on (Nat.le_refl _) hSw (al1_b w zCpu), _, g, (by rw [HA0.out]; simp only [Act.put, List.setIfInBounds_toArray, List.set_cons_zero, List.set_cons_succ] <;> (first | with_reducible rfl | rfl)), hid (Ho.out.on (al1_b w zCpu)), VB.new hSw⟩
      · rintro x a w hSw ⟨vx, g, rfl, Ho, bx⟩
        refine wpOp_step (i := 10) rfl (fun K hK => ?_)
        have HK : Shut _ := hK
        clear hK
        rw [HA0.out]
        simp only [Act.put, List.setIfInBounds_toArray, List.set_cons_zero, List.set_cons_succ]
        refine wpN _ (.tmp 79) (.tmp 85) rfl w5.heap.size g 0 0 [] qs r cp (st.take r) rfl rfl Ho.out HLr.out HQr.out (HR5.out.keep hSw (Nat.le_refl _)) (by omega) hSw.size ?_
        intro g3 c3 w9 hown9 hgr9 hat9
        simp only [Nat.zero_add, List.nil_append] at hown9 ⊢
        exact HK.out _ _ ⟨hSw.grown hgr9 hSw.size (fun k hk => by cases hk; exact Ho.out.ge), vx, g, g3, c3, (by rw [HA0.out]; simp only [Act.put, List.setIfInBounds_toArray, List.set_cons_zero, List.set_cons_succ] <;> (first | with_reducible rfl | rfl)), hid hown9, bx.grown Ho.out (by decide) hgr9⟩
      refine stage1T (i := 11) rfl (by kernel_rfl) (fun x => #[true, true, true, true, true, true, true, true, true, true, true, false, x, false]) (fun x => #[true, true, true, true, true, true, true, true, true, true, true, true, x, false]) (fun x a w => ∃ (vx : Value) (g g3 c3 : Nat), a = (((a0.put (some 79) (.slice (some ⟨g, 0, none⟩) 0 0)).put (some 86) (.slice (some ⟨g3, 0, none⟩) r c3)).put (some 18) vx) ∧ Hid (OwnN w w5.heap.size g3 r c3 (st.take r)) ∧ VB w5 x vx w zCpu) (fun x a w => ∃ (vx : Value) (g g3 c3 : Nat), a = ((((a0.put (some 79) (.slice (some ⟨g, 0, none⟩) 0 0)).put (some 86) (.slice (some ⟨g3, 0, none⟩) r c3)).put (some 87) (.agg #[.int .i64 (j + 1 : Int), .slice (some ⟨g3, 0, none⟩) r c3])).put (some 18) vx) ∧ Hid (OwnN w w5.heap.size g3 r c3 (st.take r)) ∧ VB w5 x vx w zCpu) 1 ?_ ?_ ?_ ?_ ?_ ?_
      · intro x; cases x <;> kernel_rfl
      · intro x; cases x <;> kernel_rfl
      · intro x; cases x <;> kernel_rfl
      · exact fun _ _ _ _ h => h
      · rintro x a w hSw ⟨vx, g, g3, c3, rfl, Ho, bx⟩
        refine ⟨.agg #[.int .i64 (j + 1 : Int), .slice (some ⟨g3, 0, none⟩) r c3], Or.inl ⟨by rw [HA0.out]; rfl, ?_⟩, vx, g, g3, c3, (by rw [HA0.out]; simp only [Act.put, List.setIfInBounds_toArray, List.set_cons_zero, List.set_cons_succ, List.getElem_toArray, List.getElem_cons_zero, List.getElem_cons_succ]), Ho, bx⟩
        rw [HA0.out]
        simp only [Act.put, List.setIfInBounds_toArray, List.set_cons_zero, List.set_cons_succ]
        intro w hSw; go_simp <;> with_reducible rfl
      refine stage1e (i1 := 12) (fun x => #[true, true, true, true, true, true, true, true, true, true, true, true, x, false]) (fun x a w => ∃ (vx : Value) (g g3 c3 : Nat), a = ((((a0.put (some 79) (.slice (some ⟨g, 0, none⟩) 0 0)).put (some 86) (.slice (some ⟨g3, 0, none⟩) r c3)).put (some 87) (.agg #[.int .i64 (j + 1 : Int), .slice (some ⟨g3, 0, none⟩) r c3])).put (some 18) vx) ∧ Hid (OwnN w w5.heap.size g3 r c3 (st.take r)) ∧ VB w5 x vx w zCpu) 1 ?_ ?_ ?_ ?_ ?_
      · intro i hi; have e_ := mem_kernel (rs := [12]) (by kernel_rfl) hi; simpa using e_
      · exact ne_kernel (rs := [12]) (by kernel_rfl) (by simp)
      · kernel_rfl
      · rintro a w hSw ⟨vx, g, g3, c3, rfl, Ho, bx⟩
        refine wpOp_step (i := 12) rfl (fun K hK => ?_)
        have HK : Shut _ := hK
        clear hK
        rw [HA0.out]
        simp only [Act.put, List.setIfInBounds_toArray, List.set_cons_zero, List.set_cons_succ]
        go_simp
        exact HK.out _ _ ⟨bel_on (Nat.le_refl _) hSw (al1_b w zCpu), _, g, g3, c3, (by rw [HA0.out]; simp only [Act.put, List.setIfInBounds_toArray, List.set_cons_zero, List.set_cons_succ] <;> (first | with_reducible rfl | rfl)), hid (Ho.out.on (al1_b w zCpu)), VB.new hSw⟩
      · rintro f a w hf hSw ⟨vx, g, g3, c3, rfl, Ho, bx⟩
        obtain ⟨f2, rfl⟩ : ∃ f2, f = f2 + 1 := ⟨f - 1, by omega⟩
        obtain ⟨b1, rfl, hz1, l1⟩ := bx rfl
        have kz1 := row2_cells hz1
        rw [HA0.out]
        simp only [Act.put, List.setIfInBounds_toArray, List.set_cons_zero, List.set_cons_succ]
        refine wpAnyH_ready (rs := [13]) (by kernel_rfl) (by simp) ?_
        refine AllReadyH.cons rfl (fun K hK => ?_) AllReadyH.nil
        go_simp
        refine hK.out _ _ ?_ (fun hHeld2 => ?_)
        · exact (Below.setCell (Below.setCell hSw l1 _) l1 _)
        clear hHeld2 hK K
        refine wpAnyH_done (by kernel_rfl) ?_ _
        (try go_wp2_with fail)
        go_meet
        refine ⟨b1, g3, c3, ?_, hid ?_⟩
        · rfl
        have Ho2 := Ho.out
        with_reducible exact mid_stores hz1 Ho2 l1 hSw
  case rest =>
  clear hdec
  rename World => w6
  obtain ⟨kd, g3, c3, rfl, HM⟩ := hcut
  have HX6 : Hid (Six w w6 (j : Int) (.slice qs n cp) (.slice (some ad) m ca) f s) := HX5.out.on HM.out.bel
  have HS6 : Hid (w6.heap[w1.heap.size]? = _) := row_on HS5.out HM.out.bel
  have HO6 : Hid (OwnN w6 w.heap.size g1 n c1 st) := HO5.out.on HM.out.bel
  have HI6 : Hid (w6.heap[w3.heap.size]? = _) := row_on HI5.out HM.out.bel
  have h65 := HM.out.bel.size
  have hk5 : w3.heap.size < w5.heap.size := row_lt HI5.out
  have h05 := HX5.out.lt
  have HN6 : Hid (w.heap.size + 6 ≤ kd ∧ w.heap.size + 6 ≤ g3 ∧ g3 ≠ kd) := ⟨by have := HM.out.2.2.1; omega, by have := HM.out.2.1.ge; omega, HM.out.2.2.2.1⟩
  have HU6 : Hid (OwnN w6 w.heap.size g3 r c3 (st.take r)) := HM.out.2.1.mono (by omega)
  have HD6 : Hid (w6.heap[kd]? = _) := HM.out.1
  have HN7 : Hid (g1 < g3 ∧ w1.heap.size ≠ kd) := ⟨by have := HM.out.2.1.ge; have := HO5.out.lt; omega, by have := HM.out.2.2.1; have := row_lt HS5.out; omega⟩
  clear HX5 HS5 HO5 HI5 HM HR5 Q0 Q1 h65 hk5 h05
  have ka := row1_cells HX6.out.2.1
  go_wp2_with fail
  clear ka
  refine (copySN (some ad) ce m ca HLA.out hm (by simp) _ (HRA.out.keep HX6.out.bel (Nat.le_refl _))).mono ?_
  rintro e w7 ⟨g4, c4, rfl, hown7, hb7⟩
  have h67 := hb7.size
  have h06 := HX6.out.lt
  have hA_ := al2_b w7 (.cells #[.slice (some ⟨g4, 0, none⟩) m c4] 34) (.cells #[.int .i64 0, .int .i64 0, .int .i64 0, .int .i64 0] 58)
  have HX : Hid (Six w ((w7.alloc (.cells #[.slice (some ⟨g4, 0, none⟩) m c4] 34)).alloc (.cells #[.int .i64 0, .int .i64 0, .int .i64 0, .int .i64 0] 58)) (j : Int) (.slice qs n cp) (.slice (some ad) m ca) f s) := (HX6.out.on hb7).on hA_
  have HSm : Hid (((w7.alloc (.cells #[.slice (some ⟨g4, 0, none⟩) m c4] 34)).alloc (.cells #[.int .i64 0, .int .i64 0, .int .i64 0, .int .i64 0] 58)).heap[w1.heap.size]? = _) := row_on (row_on HS6.out hb7) hA_
  have HIm : Hid (((w7.alloc (.cells #[.slice (some ⟨g4, 0, none⟩) m c4] 34)).alloc (.cells #[.int .i64 0, .int .i64 0, .int .i64 0, .int .i64 0] 58)).heap[w3.heap.size]? = _) := row_on (row_on HI6.out hb7) hA_
  have HDm : Hid (((w7.alloc (.cells #[.slice (some ⟨g4, 0, none⟩) m c4] 34)).alloc (.cells #[.int .i64 0, .int .i64 0, .int .i64 0, .int .i64 0] 58)).heap[kd]? = _) := row_on (row_on HD6.out hb7) hA_
  have HOm : Hid (OwnN ((w7.alloc (.cells #[.slice (some ⟨g4, 0, none⟩) m c4] 34)).alloc (.cells #[.int .i64 0, .int .i64 0, .int .i64 0, .int .i64 0] 58)) w.heap.size g1 n c1 st) := (HO6.out.on hb7).on hA_
  have HUm : Hid (OwnN ((w7.alloc (.cells #[.slice (some ⟨g4, 0, none⟩) m c4] 34)).alloc (.cells #[.int .i64 0, .int .i64 0, .int .i64 0, .int .i64 0] 58)) w.heap.size g3 r c3 (st.take r)) := (HU6.out.on hb7).on hA_
  have HCm : Hid (OwnN ((w7.alloc (.cells #[.slice (some ⟨g4, 0, none⟩) m c4] 34)).alloc (.cells #[.int .i64 0, .int .i64 0, .int .i64 0, .int .i64 0] 58)) w.heap.size g4 m c4 ce) := (hown7.mono (by omega)).on hA_
  have HAm : Hid (((w7.alloc (.cells #[.slice (some ⟨g4, 0, none⟩) m c4] 34)).alloc (.cells #[.int .i64 0, .int .i64 0, .int .i64 0, .int .i64 0] 58)).heap[w7.heap.size]? = some (.cells #[.slice (some ⟨g4, 0, none⟩) m c4] 34)) := al2_1 w7 _ _
  have HEm : Hid (((w7.alloc (.cells #[.slice (some ⟨g4, 0, none⟩) m c4] 34)).alloc (.cells #[.int .i64 0, .int .i64 0, .int .i64 0, .int .i64 0] 58)).heap[w7.heap.size + 1]? = some (.cells #[.int .i64 0, .int .i64 0, .int .i64 0, .int .i64 0] 58)) := al2_2 w7 _ _
  have HN8 : Hid (w.heap.size + 6 ≤ g4 ∧ w.heap.size + 6 ≤ w7.heap.size ∧ g3 < g4 ∧ g1 < g4) := ⟨by have := hown7.ge; omega, by omega, by have := hown7.ge; have := HU6.out.lt; omega, by have := hown7.ge; have := HO6.out.lt; omega⟩
  clear hA_ h67 h06 hown7 hb7 HX6 HS6 HO6 HI6 HD6 HU6
  have hn6_ := HN6.out
  have hn7_ := HN7.out
  have hn8_ := HN8.out
  have hk14_ := HK14.out
  have HBk : Hid (Bk w ((w7.alloc (.cells #[.slice (some ⟨g4, 0, none⟩) m c4] 34)).alloc (.cells #[.int .i64 0, .int .i64 0, .int .i64 0, .int .i64 0] 58)) (j : Int) (.slice qs n cp) (.slice (some ad) m ca) f s w1.heap.size g1 n c1 st w3.heap.size (o : Int) arg w7.heap.size g4 m c4 ce (w7.heap.size + 1) 0 0 0) := ⟨HX.out, HSm.out, HOm.out, HIm.out, HAm.out, HCm.out, HEm.out, HK13.out, (by have := HK13.out; omega), hn8_.2.1, by omega, HG1.out, hn8_.1, by omega⟩
  have HDk : Hid (Dk w ((w7.alloc (.cells #[.slice (some ⟨g4, 0, none⟩) m c4] 34)).alloc (.cells #[.int .i64 0, .int .i64 0, .int .i64 0, .int .i64 0] 58)) kd ((j : Int) + 1) g3 r c3 (st.take r) w1.heap.size g1 g4) := ⟨HDm.out, HUm.out, hn6_.1, hn6_.2.1, by omega, by omega, by omega⟩
  clear hn6_ hn7_ hn8_ hk14_ HX HSm HOm HIm HAm HCm HEm HDm HUm HN6 HN7 HN8
  go_upto_region 13 with fail
  go_cut [20] (fun o1 wc => o1 = .pointer (some ⟨w7.heap.size + 1, 0, none⟩) ∧ wc = ((w7.alloc (.cells #[.slice (some ⟨g4, 0, none⟩) m c4] 34)).alloc (.cells #[.int .i64 0, .int .i64 0, .int .i64 0, .int .i64 0] 58)))
  case first =>
    go_wp2_with fail
    go_meet
    exact ⟨rfl, rfl⟩
  case rest =>
  obtain ⟨rfl, rfl⟩ := hcut
  rename_i KK hKK
  refine hKK _ _ ?_
  exact HH.out w1.heap.size w3.heap.size kd w7.heap.size (w7.heap.size + 1) g1 c1 g3 c3 g4 c4 _ _ _ _ _ _ _ _ _ _ _ _ _ _ _ _ _ _ _ _ _ _ _ _ _ _ _ _ _ _ _ _ _ _ _ _ _ _ _ _ _ _ _ _ _ _ _ _ _ _ _ _ _ _ _ _ _ _ _ _ _ _ _ _ _ _ _ _ _ _ _ _ _ _ _ _ _ _ _ _ _ _ _ _ _ _ _ _ _ _ _ _ _ _ _ _ _ _ _ _ _ _ _ _ _ _ _ _ _ _ _ _ _ _ _ _ _ _ _ _ _ _ _ _ _ _ _ _ _ _ _ _ _ _ _ _ _ _ _ _ _ _ _ _ _ _ _ _ _ _ _ _ _ _ _ _ _ _ _ _ _ _ _ _ _ _ _ _ _ _ _ _ _ _ _ _ _ _ _ _ _ _ _ _ _ _ _ _ _ _ _ _ _ _ _ _ _ _ _ _ _ _ _ _ _ _ _ _ _ _ _ _ _ _ _ _ _ _ _ _ _ _ _ _ _ _ _ _ _ _ _ _ _ _ _ _ _ _ _ _ _ _ _ _ _ _ _ _ _ _ _ _ _ _ _ _ _ _ _ _ _ _ _ _ _ _ _ _ _ _ _ HBk.out HDk.out
end Go.Proofs.Ythnocibkgpofnaa
