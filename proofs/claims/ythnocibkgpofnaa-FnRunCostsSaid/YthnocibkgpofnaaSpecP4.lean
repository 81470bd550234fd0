/-
  The specification: a number doubled.
-/
import Derived.Test.YthnocibkgpofnaaSpecT
namespace Go.Proofs.Ythnocibkgpofnaa
open Go.RowKit Go.PlainAid
set_option linter.unusedVariables false
set_option maxRecDepth 100000 in
set_option maxHeartbeats 4000000 in
theorem swDup (w : World) (pc : Int) (gq oq : Nat) (st : List Int) (n cp : Nat) (ad : Addr) (ce : List Int) (m ca : Nat) (f s t arg : Int) (T r : Nat) (U V : Int) (hrb : r ≤ 1048576) (hnr : IntKind.i64.wrap ((n : Int) - T) = (r : Int)) (hru : IntKind.i64.wrap ((r : Int) + U) = V) (x : Int) (hkx : w.cell? ⟨gq, oq + r, none⟩ = some (.int .i64 x)) (hri : r < n) (hri2 : (r : Int) < (n : Int)) (hn1 : IntKind.i64.wrap ((n : Int) - 1) = (r : Int)) (hov : ¬ (8 < V)) (h61 : ¬ (60 < pc + 1)) : SwOk w pc (some ⟨gq, oq, none⟩) st n cp ad ce m ca f s t 11 arg T r U (StepPost w m (okR (pc + 1) (st.take r ++ [x, x]) ce) (r + 2)) := by
  have HKX : Hid (_ = _) := hkx
  clear hkx
  intro k13 k14 kd kA kE g1 c1 g3 c3 g4 c4 W8 s0 s1 s2 s3 s6 s9 u21 u22 u23 u24 u25 u26 u27 u28 u29 u30 u31 u32 u33 u34 u35 u36 u37 u38 u39 u40 u41 u42 u43 u44 u45 u46 u47 u48 u49 u50 u51 u52 u53 u54 u55 u56 u57 u58 u59 u60 u61 u62 u63 u64 u65 u66 u67 u68 u69 u70 u71 u72 u73 u74 u75 u76 u77 u78 u79 u80 u81 u82 u83 u84 u85 u86 u87 u88 u89 u90 u91 u92 u93 u94 u95 u96 u97 u98 u99 u100 u101 u102 u103 u104 u105 u106 u107 u108 u109 u110 u111 u112 u113 u114 u115 u116 u117 u118 u119 u120 u121 u122 u123 u124 u125 u126 u127 u128 u129 u130 u131 u132 u133 u134 u135 u136 u137 u138 u139 u140 u141 u142 u143 u144 u145 u146 u147 u148 u149 u150 u151 u152 u153 u154 u155 u156 u157 u158 u159 u160 u161 u162 u163 u164 u165 u166 u167 u168 u169 u170 u171 u172 u173 u174 u175 u176 u177 u178 u179 u180 u181 u182 u183 u184 u185 u186 u187 u188 u189 u190 u191 u192 u193 u194 u195 u196 u197 u198 u199 u200 u201 u202 u203 u204 u205 u206 u207 u208 u209 u210 u211 u212 u213 u214 u215 u216 u217 u218 u219 u220 u221 u222 u223 u224 u225 u226 u227 u228 u229 u230 u231 u232 u233 u234 u235 u236 u237 u238 u239 u240 u241 u242 u243 u244 u245 u246 u247 u248 u249 u250 u251 u252 u253 u254 u255 u256 u257 u258 u259 u260 u261 u262 u263 u264 u265 u266 u267 u268 u269 u270 u271 u272 u273 u274 u275 u276 u277 u278 u279 u280 u281 u282 u283 u284 hB hD
  have HB : Hid (Bk w W8 pc (.slice (some ⟨gq, oq, none⟩) n cp) (.slice (some ad) m ca) f s k13 g1 n c1 st k14 11 arg kA g4 m c4 ce kE 0 0 0) := hB
  have HD : Hid (Dk w W8 kd (pc + 1) g3 r c3 (st.take r) k13 g1 g4) := hD
  clear hB hD
  unfold WpSw
  change Code.wp Try.prog (Code.seq (Code.seq (Code.region 14 _ _) (Code.block 0 _)) _) _ _ _
  have ki := row2_cells HB.out.ins
  go_upto_block 0 with fail
  go_cut [] (fun wc => ∃ (g5 c5 : Nat), Hid (Bk w wc pc (.slice (some ⟨gq, oq, none⟩) n cp) (.slice (some ad) m ca) f s k13 g1 n c1 st k14 11 arg kA g4 m c4 ce kE 0 0 0) ∧ Hid (Dk w wc kd (pc + 1) g5 (r + 2) c5 (st.take r ++ [x, x]) k13 g1 g4))
  case first =>
    go_wp2_with fail
    clear ki
    have HBd : Hid (Bk w W8.drew pc (.slice (some ⟨gq, oq, none⟩) n cp) (.slice (some ad) m ca) f s k13 g1 n c1 st k14 11 arg kA g4 m c4 ce kE 0 0 0) := HB.out.drew
    have HDd : Hid (Dk w W8.drew kd (pc + 1) g3 r c3 (st.take r) k13 g1 g4) := HD.out.drew
    have HBa : Hid (Bk w (W8.alloc (.cells #[.int .i64 x, .int .i64 x] 3)).drew pc (.slice (some ⟨gq, oq, none⟩) n cp) (.slice (some ad) m ca) f s k13 g1 n c1 st k14 11 arg kA g4 m c4 ce kE 0 0 0) := (HB.out.on (al1_b _ _)).drew
    have HDa : Hid (Dk w (W8.alloc (.cells #[.int .i64 x, .int .i64 x] 3)).drew kd (pc + 1) g3 r c3 (st.take r) k13 g1 g4) := (HD.out.on (al1_b _ _)).drew
    have HRD : Hid (Rd (W8.alloc (.cells #[.int .i64 x, .int .i64 x] 3)).drew (some ⟨W8.heap.size, 0, none⟩) [x, x]) := Rd.drew (rd_two _ _ _)
    have hszW : w.heap.size ≤ (W8.alloc (.cells #[.int .i64 x, .int .i64 x] 3)).drew.heap.size := by have := HBa.out.six.lt; omega
    refine wp_region_held_drew (S := fun w' => Six w w' pc (.slice (some ⟨gq, oq, none⟩) n cp) (.slice (some ad) m ca) f s) (by kernel_rfl) HBd.out.six (fun hHeld => ?_)
    refine wpAnyH_take (i := 0) (v := ?_) rfl (by kernel_rfl) (by kernel_rfl) (by kernel_rfl) (fun _ _ _ h => h) (Or.inl ⟨by rfl, ?_⟩) (by assumption) ?_
    rotate_left
    · intro w_ hSw; (try dsimp only at hSw); have q1_ := (row2_cells hSw.1).2.1; have qx_ := bel_cell HKX.out hSw.bel (Nat.le_refl _); go_simp <;> with_reducible rfl
    simp only [Act.put, List.setIfInBounds_toArray, List.set_cons_zero, List.set_cons_succ, List.getElem_toArray, List.getElem_cons_zero]
    refine wpAnyH_take (i := 2) (v := ?_) rfl (by kernel_rfl) (by kernel_rfl) (by kernel_rfl) (fun _ _ _ h => h) (Or.inl ⟨by rfl, ?_⟩) (by assumption) ?_
    rotate_left
    · intro w_ hSw; (try dsimp only at hSw); have q1_ := (row2_cells hSw.1).2.1; have qx_ := bel_cell HKX.out hSw.bel (Nat.le_refl _); go_simp <;> with_reducible rfl
    simp only [Act.put, List.setIfInBounds_toArray, List.set_cons_zero, List.set_cons_succ, List.getElem_toArray, List.getElem_cons_zero, List.getElem_cons_succ]
    refine wpAnyH_take (i := 3) (v := ?_) rfl (by kernel_rfl) (by kernel_rfl) (by kernel_rfl) (fun _ _ _ h => h) (Or.inl ⟨by rfl, ?_⟩) (by assumption) ?_
    rotate_left
    · intro w_ hSw; (try dsimp only at hSw); have q1_ := (row2_cells hSw.1).2.1; have qx_ := bel_cell HKX.out hSw.bel (Nat.le_refl _); go_simp <;> with_reducible rfl
    simp only [Act.put, List.setIfInBounds_toArray, List.set_cons_zero, List.set_cons_succ, List.getElem_toArray, List.getElem_cons_zero, List.getElem_cons_succ]
    refine wpAnyH_take (i := 4) (v := ?_) rfl (by kernel_rfl) (by kernel_rfl) (by kernel_rfl) (fun _ _ _ h => h) (Or.inl ⟨by rfl, ?_⟩) (by assumption) ?_
    rotate_left
    · intro w_ hSw; (try dsimp only at hSw); have q1_ := (row2_cells hSw.1).2.1; have qx_ := bel_cell HKX.out hSw.bel (Nat.le_refl _); go_simp <;> with_reducible rfl
    simp only [Act.put, List.setIfInBounds_toArray, List.set_cons_zero, List.set_cons_succ, List.getElem_toArray, List.getElem_cons_zero, List.getElem_cons_succ]
    refine wpAnyH_take (i := 5) (v := .int .i64 (r : Int)) rfl (by kernel_rfl) (by kernel_rfl) (by kernel_rfl) (fun _ _ _ h => h) (Or.inl ⟨by rfl, ?_⟩) (by assumption) ?_
    · intro w_ hSw; (try dsimp only at hSw); have q1_ := (row2_cells hSw.1).2.1; have qx_ := bel_cell HKX.out hSw.bel (Nat.le_refl _); go_simp
    simp only [Act.put, List.setIfInBounds_toArray, List.set_cons_zero, List.set_cons_succ, List.getElem_toArray, List.getElem_cons_zero, List.getElem_cons_succ]
    refine wpAnyH_take (i := 6) (v := .pointer (some ⟨gq, oq + r, none⟩)) rfl (by kernel_rfl) (by kernel_rfl) (by kernel_rfl) (fun _ _ _ h => h) (Or.inl ⟨by rfl, ?_⟩) (by assumption) ?_
    · intro w_ hSw; (try dsimp only at hSw); have q1_ := (row2_cells hSw.1).2.1; have qx_ := bel_cell HKX.out hSw.bel (Nat.le_refl _); go_simp
    simp only [Act.put, List.setIfInBounds_toArray, List.set_cons_zero, List.set_cons_succ, List.getElem_toArray, List.getElem_cons_zero, List.getElem_cons_succ]
    refine wpAnyH_take (i := 7) (v := .int .i64 x) rfl (by kernel_rfl) (by kernel_rfl) (by kernel_rfl) (fun _ _ _ h => h) (Or.inl ⟨by rfl, ?_⟩) (by assumption) ?_
    · intro w_ hSw; (try dsimp only at hSw); have q1_ := (row2_cells hSw.1).2.1; have qx_ := bel_cell HKX.out hSw.bel (Nat.le_refl _); go_simp
    simp only [Act.put, List.setIfInBounds_toArray, List.set_cons_zero, List.set_cons_succ, List.getElem_toArray, List.getElem_cons_zero, List.getElem_cons_succ]
    refine wpAnyH_take (i := 8) (v := ?_) rfl (by kernel_rfl) (by kernel_rfl) (by kernel_rfl) (fun _ _ _ h => h) (Or.inl ⟨by rfl, ?_⟩) (by assumption) ?_
    rotate_left
    · intro w_ hSw; (try dsimp only at hSw); have q1_ := (row2_cells hSw.1).2.1; have qx_ := bel_cell HKX.out hSw.bel (Nat.le_refl _); go_simp <;> with_reducible rfl
    simp only [Act.put, List.setIfInBounds_toArray, List.set_cons_zero, List.set_cons_succ, List.getElem_toArray, List.getElem_cons_zero, List.getElem_cons_succ]
    refine wpAnyH_take (i := 9) (v := ?_) rfl (by kernel_rfl) (by kernel_rfl) (by kernel_rfl) (fun _ _ _ h => h) (Or.inl ⟨by rfl, ?_⟩) (by assumption) ?_
    rotate_left
    · intro w_ hSw; (try dsimp only at hSw); have q1_ := (row2_cells hSw.1).2.1; have qx_ := bel_cell HKX.out hSw.bel (Nat.le_refl _); go_simp <;> with_reducible rfl
    simp only [Act.put, List.setIfInBounds_toArray, List.set_cons_zero, List.set_cons_succ, List.getElem_toArray, List.getElem_cons_zero, List.getElem_cons_succ]
    refine wpAnyH_take (i := 10) (v := ?_) rfl (by kernel_rfl) (by kernel_rfl) (by kernel_rfl) (fun _ _ _ h => h) (Or.inl ⟨by rfl, ?_⟩) (by assumption) ?_
    rotate_left
    · intro w_ hSw; (try dsimp only at hSw); have q1_ := (row2_cells hSw.1).2.1; have qx_ := bel_cell HKX.out hSw.bel (Nat.le_refl _); go_simp <;> with_reducible rfl
    simp only [Act.put, List.setIfInBounds_toArray, List.set_cons_zero, List.set_cons_succ, List.getElem_toArray, List.getElem_cons_zero, List.getElem_cons_succ]
    refine wpAnyH_take (i := 11) (v := .int .i64 (r : Int)) rfl (by kernel_rfl) (by kernel_rfl) (by kernel_rfl) (fun _ _ _ h => h) (Or.inl ⟨by rfl, ?_⟩) (by assumption) ?_
    · intro w_ hSw; (try dsimp only at hSw); have q1_ := (row2_cells hSw.1).2.1; have qx_ := bel_cell HKX.out hSw.bel (Nat.le_refl _); go_simp
    simp only [Act.put, List.setIfInBounds_toArray, List.set_cons_zero, List.set_cons_succ, List.getElem_toArray, List.getElem_cons_zero, List.getElem_cons_succ]
    refine wpAnyH_take (i := 12) (v := .pointer (some ⟨gq, oq + r, none⟩)) rfl (by kernel_rfl) (by kernel_rfl) (by kernel_rfl) (fun _ _ _ h => h) (Or.inl ⟨by rfl, ?_⟩) (by assumption) ?_
    · intro w_ hSw; (try dsimp only at hSw); have q1_ := (row2_cells hSw.1).2.1; have qx_ := bel_cell HKX.out hSw.bel (Nat.le_refl _); go_simp
    simp only [Act.put, List.setIfInBounds_toArray, List.set_cons_zero, List.set_cons_succ, List.getElem_toArray, List.getElem_cons_zero, List.getElem_cons_succ]
    refine wpAnyH_take (i := 13) (v := .int .i64 x) rfl (by kernel_rfl) (by kernel_rfl) (by kernel_rfl) (fun _ _ _ h => h) (Or.inl ⟨by rfl, ?_⟩) (by assumption) ?_
    · intro w_ hSw; (try dsimp only at hSw); have q1_ := (row2_cells hSw.1).2.1; have qx_ := bel_cell HKX.out hSw.bel (Nat.le_refl _); go_simp
    simp only [Act.put, List.setIfInBounds_toArray, List.set_cons_zero, List.set_cons_succ, List.getElem_toArray, List.getElem_cons_zero, List.getElem_cons_succ]
    refine wpAnyH_ready (rs := [1, 14]) (by kernel_rfl) (by simp) ?_
    refine AllReadyH.cons rfl (fun K hK => ?_) (AllReadyH.cons rfl (fun K hK => ?_) AllReadyH.nil)
    · skip
      have kdd := row2_cells HDd.out.box
      go_simp
      refine hK.out _ _ ?_ (fun hHeld2 => ?_)
      · exact HBd.out.six
      clear hK K kdd
      try simp only [Act.put, List.setIfInBounds_toArray, List.set_cons_zero, List.set_cons_succ]
      refine wpAnyH_ready (rs := [14]) (by kernel_rfl) (by simp) ?_
      refine AllReadyH.cons rfl (fun K hK => ?_) AllReadyH.nil
      go_simp
      refine hK.out _ _ ?_ (fun hHeld2 => ?_)
      · exact HBa.out.six
      clear hK K
      try simp only [Act.put, List.setIfInBounds_toArray, List.set_cons_zero, List.set_cons_succ]
      refine wpAnyH_ready (rs := [15]) (by kernel_rfl) (by simp) ?_
      refine AllReadyH.cons rfl (fun K hK => ?_) AllReadyH.nil
      refine wpN _ (.tmp 221) (.tmp 234) rfl w.heap.size g3 r c3 (st.take r) (some ⟨W8.heap.size, 0, none⟩) 2 2 [x, x] rfl rfl HDa.out.own rfl (by simp) HRD.out (by omega) hszW ?_
      intro g5 c5 w9 hown9 hgr9 hat9
      have HPUT : Hid (_ ∧ _ ∧ _) := Dk.put HBa.out HDa.out hown9 hgr9 (by simpa using hat9)
      have HG9 := HBa.out.grown HDa.out hgr9
      have kz := row2_cells HPUT.out.1
      refine hK.out _ _ ?_ (fun hHeld2 => ?_)
      · exact HG9.six
      clear hK K hown9 hgr9 hat9 HG9
      try simp only [Act.put, List.setIfInBounds_toArray]
      refine wpAnyH_take (i := 16) (v := ?_) rfl (by kernel_rfl) (by kernel_rfl) (by kernel_rfl) (fun _ _ _ h => h) (Or.inl ⟨by rfl, ?_⟩) (by assumption) ?_
      rotate_left
      · intro w_ hSw; (try dsimp only at hSw); go_simp <;> with_reducible rfl
      try simp only [Act.put, List.setIfInBounds_toArray, List.set_cons_zero, List.set_cons_succ, List.getElem_toArray, List.getElem_cons_zero, List.getElem_cons_succ]
      clear hHeld2
      refine wpAnyH_ready (rs := [17]) (by kernel_rfl) (by simp) ?_
      refine AllReadyH.cons rfl (fun K hK => ?_) AllReadyH.nil
      go_simp
      refine hK.out _ _ ?_ (fun hHeld2 => ?_)
      · exact HPUT.out.2.1.six
      clear hHeld2 hK K kz
      refine wpAnyH_done (by kernel_rfl) ?_ _
      (try go_wp2_with fail)
      go_meet
      exact ⟨g5, c5, HPUT.out.2.1, HPUT.out.2.2⟩
    · skip
      go_simp
      refine hK.out _ _ ?_ (fun hHeld2 => ?_)
      · exact HBa.out.six
      clear hK K
      try simp only [Act.put, List.setIfInBounds_toArray, List.set_cons_zero, List.set_cons_succ]
      refine wpAnyH_ready (rs := [1]) (by kernel_rfl) (by simp) ?_
      refine AllReadyH.cons rfl (fun K hK => ?_) AllReadyH.nil
      have kdd := row2_cells HDa.out.box
      go_simp
      refine hK.out _ _ ?_ (fun hHeld2 => ?_)
      · exact HBa.out.six
      clear hK K kdd
      try simp only [Act.put, List.setIfInBounds_toArray, List.set_cons_zero, List.set_cons_succ]
      refine wpAnyH_ready (rs := [15]) (by kernel_rfl) (by simp) ?_
      refine AllReadyH.cons rfl (fun K hK => ?_) AllReadyH.nil
      refine wpN _ (.tmp 221) (.tmp 234) rfl w.heap.size g3 r c3 (st.take r) (some ⟨W8.heap.size, 0, none⟩) 2 2 [x, x] rfl rfl HDa.out.own rfl (by simp) HRD.out (by omega) hszW ?_
      intro g5 c5 w9 hown9 hgr9 hat9
      have HPUT : Hid (_ ∧ _ ∧ _) := Dk.put HBa.out HDa.out hown9 hgr9 (by simpa using hat9)
      have HG9 := HBa.out.grown HDa.out hgr9
      have kz := row2_cells HPUT.out.1
      refine hK.out _ _ ?_ (fun hHeld2 => ?_)
      · exact HG9.six
      clear hK K hown9 hgr9 hat9 HG9
      try simp only [Act.put, List.setIfInBounds_toArray]
      refine wpAnyH_take (i := 16) (v := ?_) rfl (by kernel_rfl) (by kernel_rfl) (by kernel_rfl) (fun _ _ _ h => h) (Or.inl ⟨by rfl, ?_⟩) (by assumption) ?_
      rotate_left
      · intro w_ hSw; (try dsimp only at hSw); go_simp <;> with_reducible rfl
      try simp only [Act.put, List.setIfInBounds_toArray, List.set_cons_zero, List.set_cons_succ, List.getElem_toArray, List.getElem_cons_zero, List.getElem_cons_succ]
      clear hHeld2
      refine wpAnyH_ready (rs := [17]) (by kernel_rfl) (by simp) ?_
      refine AllReadyH.cons rfl (fun K hK => ?_) AllReadyH.nil
      go_simp
      refine hK.out _ _ ?_ (fun hHeld2 => ?_)
      · exact HPUT.out.2.1.six
      clear hHeld2 hK K kz
      refine wpAnyH_done (by kernel_rfl) ?_ _
      (try go_wp2_with fail)
      go_meet
      exact ⟨g5, c5, HPUT.out.2.1, HPUT.out.2.2⟩
  case rest =>
  clear HB HD
  rename World => W9
  obtain ⟨g5, c5, HB, HD⟩ := hcut
  rename_i KK hKK
  refine hKK _ _ ?_
  exact specTail w pc (some ⟨gq, oq, none⟩) st n cp ad ce m ca f s t 11 arg T r U V ce (st.take r ++ [x, x]) (pc + 1) 0 0 0 (r + 2) k13 k14 kd kA kE g1 c1 g5 c5 g4 c4 W9 _ _ _ _ _ _ _ _ _ _ _ _ _ _ _ _ _ _ _ _ _ _ _ _ _ _ _ _ _ _ _ _ _ _ _ _ _ _ _ _ _ _ _ _ _ _ _ _ _ _ _ _ _ _ _ _ _ _ _ _ _ _ _ _ _ _ _ _ _ _ _ _ _ _ _ _ _ _ _ _ _ _ _ _ _ _ _ _ _ _ _ _ _ _ _ _ _ _ _ _ _ _ _ _ _ _ _ _ _ _ _ _ _ _ _ _ _ _ _ _ _ _ _ _ _ _ _ _ _ _ _ _ _ _ _ _ _ _ _ _ _ _ _ _ _ _ _ _ _ _ _ _ _ _ _ _ _ _ _ _ _ _ _ _ _ _ _ _ _ _ _ _ _ _ _ _ _ _ _ _ _ _ _ _ _ _ _ _ _ _ _ _ _ _ _ _ _ _ _ _ _ _ _ _ _ _ _ _ _ _ _ _ _ _ _ _ _ _ _ _ _ _ _ _ _ _ _ _ _ _ _ _ _ _ _ _ _ _ _ _ _ _ _ _ _ _ _ _ _ _ _ _ _ _ _ _ _ _ _ _ _ _ _ _ _ _ _ _ _ _ hnr hru hov h61 HB.out HD.out

set_option maxRecDepth 100000 in
set_option maxHeartbeats 4000000 in
theorem swDupOver (w : World) (pc : Int) (gq oq : Nat) (st : List Int) (n cp : Nat) (ad : Addr) (ce : List Int) (m ca : Nat) (f s t arg : Int) (T r : Nat) (U V : Int) (hrb : r ≤ 1048576) (hnr : IntKind.i64.wrap ((n : Int) - T) = (r : Int)) (hru : IntKind.i64.wrap ((r : Int) + U) = V) (x : Int) (hkx : w.cell? ⟨gq, oq + r, none⟩ = some (.int .i64 x)) (hri : r < n) (hri2 : (r : Int) < (n : Int)) (hn1 : IntKind.i64.wrap ((n : Int) - 1) = (r : Int)) (hov : 8 < V) (hla : ce.length = m) (hm : m ≤ 1048576) (hra : Rd w (some ad) ce) : SwOk w pc (some ⟨gq, oq, none⟩) st n cp ad ce m ca f s t 11 arg T r U (StepPost w m (trapR pc st ce 4) (n)) := by
  have HKX : Hid (_ = _) := hkx
  clear hkx
  intro k13 k14 kd kA kE g1 c1 g3 c3 g4 c4 W8 s0 s1 s2 s3 s6 s9 u21 u22 u23 u24 u25 u26 u27 u28 u29 u30 u31 u32 u33 u34 u35 u36 u37 u38 u39 u40 u41 u42 u43 u44 u45 u46 u47 u48 u49 u50 u51 u52 u53 u54 u55 u56 u57 u58 u59 u60 u61 u62 u63 u64 u65 u66 u67 u68 u69 u70 u71 u72 u73 u74 u75 u76 u77 u78 u79 u80 u81 u82 u83 u84 u85 u86 u87 u88 u89 u90 u91 u92 u93 u94 u95 u96 u97 u98 u99 u100 u101 u102 u103 u104 u105 u106 u107 u108 u109 u110 u111 u112 u113 u114 u115 u116 u117 u118 u119 u120 u121 u122 u123 u124 u125 u126 u127 u128 u129 u130 u131 u132 u133 u134 u135 u136 u137 u138 u139 u140 u141 u142 u143 u144 u145 u146 u147 u148 u149 u150 u151 u152 u153 u154 u155 u156 u157 u158 u159 u160 u161 u162 u163 u164 u165 u166 u167 u168 u169 u170 u171 u172 u173 u174 u175 u176 u177 u178 u179 u180 u181 u182 u183 u184 u185 u186 u187 u188 u189 u190 u191 u192 u193 u194 u195 u196 u197 u198 u199 u200 u201 u202 u203 u204 u205 u206 u207 u208 u209 u210 u211 u212 u213 u214 u215 u216 u217 u218 u219 u220 u221 u222 u223 u224 u225 u226 u227 u228 u229 u230 u231 u232 u233 u234 u235 u236 u237 u238 u239 u240 u241 u242 u243 u244 u245 u246 u247 u248 u249 u250 u251 u252 u253 u254 u255 u256 u257 u258 u259 u260 u261 u262 u263 u264 u265 u266 u267 u268 u269 u270 u271 u272 u273 u274 u275 u276 u277 u278 u279 u280 u281 u282 u283 u284 hB hD
  have HB : Hid (Bk w W8 pc (.slice (some ⟨gq, oq, none⟩) n cp) (.slice (some ad) m ca) f s k13 g1 n c1 st k14 11 arg kA g4 m c4 ce kE 0 0 0) := hB
  have HD : Hid (Dk w W8 kd (pc + 1) g3 r c3 (st.take r) k13 g1 g4) := hD
  clear hB hD
  unfold WpSw
  change Code.wp Try.prog (Code.seq (Code.seq (Code.region 14 _ _) (Code.block 0 _)) _) _ _ _
  have ki := row2_cells HB.out.ins
  go_upto_block 0 with fail
  go_cut [] (fun wc => ∃ (g5 c5 : Nat), Hid (Bk w wc pc (.slice (some ⟨gq, oq, none⟩) n cp) (.slice (some ad) m ca) f s k13 g1 n c1 st k14 11 arg kA g4 m c4 ce kE 0 0 0) ∧ Hid (Dk w wc kd (pc + 1) g5 (r + 2) c5 (st.take r ++ [x, x]) k13 g1 g4))
  case first =>
    go_wp2_with fail
    clear ki
    have HBd : Hid (Bk w W8.drew pc (.slice (some ⟨gq, oq, none⟩) n cp) (.slice (some ad) m ca) f s k13 g1 n c1 st k14 11 arg kA g4 m c4 ce kE 0 0 0) := HB.out.drew
    have HDd : Hid (Dk w W8.drew kd (pc + 1) g3 r c3 (st.take r) k13 g1 g4) := HD.out.drew
    have HBa : Hid (Bk w (W8.alloc (.cells #[.int .i64 x, .int .i64 x] 3)).drew pc (.slice (some ⟨gq, oq, none⟩) n cp) (.slice (some ad) m ca) f s k13 g1 n c1 st k14 11 arg kA g4 m c4 ce kE 0 0 0) := (HB.out.on (al1_b _ _)).drew
    have HDa : Hid (Dk w (W8.alloc (.cells #[.int .i64 x, .int .i64 x] 3)).drew kd (pc + 1) g3 r c3 (st.take r) k13 g1 g4) := (HD.out.on (al1_b _ _)).drew
    have HRD : Hid (Rd (W8.alloc (.cells #[.int .i64 x, .int .i64 x] 3)).drew (some ⟨W8.heap.size, 0, none⟩) [x, x]) := Rd.drew (rd_two _ _ _)
    have hszW : w.heap.size ≤ (W8.alloc (.cells #[.int .i64 x, .int .i64 x] 3)).drew.heap.size := by have := HBa.out.six.lt; omega
    refine wp_region_held_drew (S := fun w' => Six w w' pc (.slice (some ⟨gq, oq, none⟩) n cp) (.slice (some ad) m ca) f s) (by kernel_rfl) HBd.out.six (fun hHeld => ?_)
    refine wpAnyH_take (i := 0) (v := ?_) rfl (by kernel_rfl) (by kernel_rfl) (by kernel_rfl) (fun _ _ _ h => h) (Or.inl ⟨by rfl, ?_⟩) (by assumption) ?_
    rotate_left
    · intro w_ hSw; (try dsimp only at hSw); have q1_ := (row2_cells hSw.1).2.1; have qx_ := bel_cell HKX.out hSw.bel (Nat.le_refl _); go_simp <;> with_reducible rfl
    simp only [Act.put, List.setIfInBounds_toArray, List.set_cons_zero, List.set_cons_succ, List.getElem_toArray, List.getElem_cons_zero]
    refine wpAnyH_take (i := 2) (v := ?_) rfl (by kernel_rfl) (by kernel_rfl) (by kernel_rfl) (fun _ _ _ h => h) (Or.inl ⟨by rfl, ?_⟩) (by assumption) ?_
    rotate_left
    · intro w_ hSw; (try dsimp only at hSw); have q1_ := (row2_cells hSw.1).2.1; have qx_ := bel_cell HKX.out hSw.bel (Nat.le_refl _); go_simp <;> with_reducible rfl
    simp only [Act.put, List.setIfInBounds_toArray, List.set_cons_zero, List.set_cons_succ, List.getElem_toArray, List.getElem_cons_zero, List.getElem_cons_succ]
    refine wpAnyH_take (i := 3) (v := ?_) rfl (by kernel_rfl) (by kernel_rfl) (by kernel_rfl) (fun _ _ _ h => h) (Or.inl ⟨by rfl, ?_⟩) (by assumption) ?_
    rotate_left
    · intro w_ hSw; (try dsimp only at hSw); have q1_ := (row2_cells hSw.1).2.1; have qx_ := bel_cell HKX.out hSw.bel (Nat.le_refl _); go_simp <;> with_reducible rfl
    simp only [Act.put, List.setIfInBounds_toArray, List.set_cons_zero, List.set_cons_succ, List.getElem_toArray, List.getElem_cons_zero, List.getElem_cons_succ]
    refine wpAnyH_take (i := 4) (v := ?_) rfl (by kernel_rfl) (by kernel_rfl) (by kernel_rfl) (fun _ _ _ h => h) (Or.inl ⟨by rfl, ?_⟩) (by assumption) ?_
    rotate_left
    · intro w_ hSw; (try dsimp only at hSw); have q1_ := (row2_cells hSw.1).2.1; have qx_ := bel_cell HKX.out hSw.bel (Nat.le_refl _); go_simp <;> with_reducible rfl
    simp only [Act.put, List.setIfInBounds_toArray, List.set_cons_zero, List.set_cons_succ, List.getElem_toArray, List.getElem_cons_zero, List.getElem_cons_succ]
    refine wpAnyH_take (i := 5) (v := .int .i64 (r : Int)) rfl (by kernel_rfl) (by kernel_rfl) (by kernel_rfl) (fun _ _ _ h => h) (Or.inl ⟨by rfl, ?_⟩) (by assumption) ?_
    · intro w_ hSw; (try dsimp only at hSw); have q1_ := (row2_cells hSw.1).2.1; have qx_ := bel_cell HKX.out hSw.bel (Nat.le_refl _); go_simp
    simp only [Act.put, List.setIfInBounds_toArray, List.set_cons_zero, List.set_cons_succ, List.getElem_toArray, List.getElem_cons_zero, List.getElem_cons_succ]
    refine wpAnyH_take (i := 6) (v := .pointer (some ⟨gq, oq + r, none⟩)) rfl (by kernel_rfl) (by kernel_rfl) (by kernel_rfl) (fun _ _ _ h => h) (Or.inl ⟨by rfl, ?_⟩) (by assumption) ?_
    · intro w_ hSw; (try dsimp only at hSw); have q1_ := (row2_cells hSw.1).2.1; have qx_ := bel_cell HKX.out hSw.bel (Nat.le_refl _); go_simp
    simp only [Act.put, List.setIfInBounds_toArray, List.set_cons_zero, List.set_cons_succ, List.getElem_toArray, List.getElem_cons_zero, List.getElem_cons_succ]
    refine wpAnyH_take (i := 7) (v := .int .i64 x) rfl (by kernel_rfl) (by kernel_rfl) (by kernel_rfl) (fun _ _ _ h => h) (Or.inl ⟨by rfl, ?_⟩) (by assumption) ?_
    · intro w_ hSw; (try dsimp only at hSw); have q1_ := (row2_cells hSw.1).2.1; have qx_ := bel_cell HKX.out hSw.bel (Nat.le_refl _); go_simp
    simp only [Act.put, List.setIfInBounds_toArray, List.set_cons_zero, List.set_cons_succ, List.getElem_toArray, List.getElem_cons_zero, List.getElem_cons_succ]
    refine wpAnyH_take (i := 8) (v := ?_) rfl (by kernel_rfl) (by kernel_rfl) (by kernel_rfl) (fun _ _ _ h => h) (Or.inl ⟨by rfl, ?_⟩) (by assumption) ?_
    rotate_left
    · intro w_ hSw; (try dsimp only at hSw); have q1_ := (row2_cells hSw.1).2.1; have qx_ := bel_cell HKX.out hSw.bel (Nat.le_refl _); go_simp <;> with_reducible rfl
    simp only [Act.put, List.setIfInBounds_toArray, List.set_cons_zero, List.set_cons_succ, List.getElem_toArray, List.getElem_cons_zero, List.getElem_cons_succ]
    refine wpAnyH_take (i := 9) (v := ?_) rfl (by kernel_rfl) (by kernel_rfl) (by kernel_rfl) (fun _ _ _ h => h) (Or.inl ⟨by rfl, ?_⟩) (by assumption) ?_
    rotate_left
    · intro w_ hSw; (try dsimp only at hSw); have q1_ := (row2_cells hSw.1).2.1; have qx_ := bel_cell HKX.out hSw.bel (Nat.le_refl _); go_simp <;> with_reducible rfl
    simp only [Act.put, List.setIfInBounds_toArray, List.set_cons_zero, List.set_cons_succ, List.getElem_toArray, List.getElem_cons_zero, List.getElem_cons_succ]
    refine wpAnyH_take (i := 10) (v := ?_) rfl (by kernel_rfl) (by kernel_rfl) (by kernel_rfl) (fun _ _ _ h => h) (Or.inl ⟨by rfl, ?_⟩) (by assumption) ?_
    rotate_left
    · intro w_ hSw; (try dsimp only at hSw); have q1_ := (row2_cells hSw.1).2.1; have qx_ := bel_cell HKX.out hSw.bel (Nat.le_refl _); go_simp <;> with_reducible rfl
    simp only [Act.put, List.setIfInBounds_toArray, List.set_cons_zero, List.set_cons_succ, List.getElem_toArray, List.getElem_cons_zero, List.getElem_cons_succ]
    refine wpAnyH_take (i := 11) (v := .int .i64 (r : Int)) rfl (by kernel_rfl) (by kernel_rfl) (by kernel_rfl) (fun _ _ _ h => h) (Or.inl ⟨by rfl, ?_⟩) (by assumption) ?_
    · intro w_ hSw; (try dsimp only at hSw); have q1_ := (row2_cells hSw.1).2.1; have qx_ := bel_cell HKX.out hSw.bel (Nat.le_refl _); go_simp
    simp only [Act.put, List.setIfInBounds_toArray, List.set_cons_zero, List.set_cons_succ, List.getElem_toArray, List.getElem_cons_zero, List.getElem_cons_succ]
    refine wpAnyH_take (i := 12) (v := .pointer (some ⟨gq, oq + r, none⟩)) rfl (by kernel_rfl) (by kernel_rfl) (by kernel_rfl) (fun _ _ _ h => h) (Or.inl ⟨by rfl, ?_⟩) (by assumption) ?_
    · intro w_ hSw; (try dsimp only at hSw); have q1_ := (row2_cells hSw.1).2.1; have qx_ := bel_cell HKX.out hSw.bel (Nat.le_refl _); go_simp
    simp only [Act.put, List.setIfInBounds_toArray, List.set_cons_zero, List.set_cons_succ, List.getElem_toArray, List.getElem_cons_zero, List.getElem_cons_succ]
    refine wpAnyH_take (i := 13) (v := .int .i64 x) rfl (by kernel_rfl) (by kernel_rfl) (by kernel_rfl) (fun _ _ _ h => h) (Or.inl ⟨by rfl, ?_⟩) (by assumption) ?_
    · intro w_ hSw; (try dsimp only at hSw); have q1_ := (row2_cells hSw.1).2.1; have qx_ := bel_cell HKX.out hSw.bel (Nat.le_refl _); go_simp
    simp only [Act.put, List.setIfInBounds_toArray, List.set_cons_zero, List.set_cons_succ, List.getElem_toArray, List.getElem_cons_zero, List.getElem_cons_succ]
    refine wpAnyH_ready (rs := [1, 14]) (by kernel_rfl) (by simp) ?_
    refine AllReadyH.cons rfl (fun K hK => ?_) (AllReadyH.cons rfl (fun K hK => ?_) AllReadyH.nil)
    · skip
      have kdd := row2_cells HDd.out.box
      go_simp
      refine hK.out _ _ ?_ (fun hHeld2 => ?_)
      · exact HBd.out.six
      clear hK K kdd
      try simp only [Act.put, List.setIfInBounds_toArray, List.set_cons_zero, List.set_cons_succ]
      refine wpAnyH_ready (rs := [14]) (by kernel_rfl) (by simp) ?_
      refine AllReadyH.cons rfl (fun K hK => ?_) AllReadyH.nil
      go_simp
      refine hK.out _ _ ?_ (fun hHeld2 => ?_)
      · exact HBa.out.six
      clear hK K
      try simp only [Act.put, List.setIfInBounds_toArray, List.set_cons_zero, List.set_cons_succ]
      refine wpAnyH_ready (rs := [15]) (by kernel_rfl) (by simp) ?_
      refine AllReadyH.cons rfl (fun K hK => ?_) AllReadyH.nil
      refine wpN _ (.tmp 221) (.tmp 234) rfl w.heap.size g3 r c3 (st.take r) (some ⟨W8.heap.size, 0, none⟩) 2 2 [x, x] rfl rfl HDa.out.own rfl (by simp) HRD.out (by omega) hszW ?_
      intro g5 c5 w9 hown9 hgr9 hat9
      have HPUT : Hid (_ ∧ _ ∧ _) := Dk.put HBa.out HDa.out hown9 hgr9 (by simpa using hat9)
      have HG9 := HBa.out.grown HDa.out hgr9
      have kz := row2_cells HPUT.out.1
      refine hK.out _ _ ?_ (fun hHeld2 => ?_)
      · exact HG9.six
      clear hK K hown9 hgr9 hat9 HG9
      try simp only [Act.put, List.setIfInBounds_toArray]
      refine wpAnyH_take (i := 16) (v := ?_) rfl (by kernel_rfl) (by kernel_rfl) (by kernel_rfl) (fun _ _ _ h => h) (Or.inl ⟨by rfl, ?_⟩) (by assumption) ?_
      rotate_left
      · intro w_ hSw; (try dsimp only at hSw); go_simp <;> with_reducible rfl
      try simp only [Act.put, List.setIfInBounds_toArray, List.set_cons_zero, List.set_cons_succ, List.getElem_toArray, List.getElem_cons_zero, List.getElem_cons_succ]
      clear hHeld2
      refine wpAnyH_ready (rs := [17]) (by kernel_rfl) (by simp) ?_
      refine AllReadyH.cons rfl (fun K hK => ?_) AllReadyH.nil
      go_simp
      refine hK.out _ _ ?_ (fun hHeld2 => ?_)
      · exact HPUT.out.2.1.six
      clear hHeld2 hK K kz
      refine wpAnyH_done (by kernel_rfl) ?_ _
      (try go_wp2_with fail)
      go_meet
      exact ⟨g5, c5, HPUT.out.2.1, HPUT.out.2.2⟩
    · skip
      go_simp
      refine hK.out _ _ ?_ (fun hHeld2 => ?_)
      · exact HBa.out.six
      clear hK K
      try simp only [Act.put, List.setIfInBounds_toArray, List.set_cons_zero, List.set_cons_succ]
      refine wpAnyH_ready (rs := [1]) (by kernel_rfl) (by simp) ?_
      refine AllReadyH.cons rfl (fun K hK => ?_) AllReadyH.nil
      have kdd := row2_cells HDa.out.box
      go_simp
      refine hK.out _ _ ?_ (fun hHeld2 => ?_)
      · exact HBa.out.six
      clear hK K kdd
      try simp only [Act.put, List.setIfInBounds_toArray, List.set_cons_zero, List.set_cons_succ]
      refine wpAnyH_ready (rs := [15]) (by kernel_rfl) (by simp) ?_
      refine AllReadyH.cons rfl (fun K hK => ?_) AllReadyH.nil
      refine wpN _ (.tmp 221) (.tmp 234) rfl w.heap.size g3 r c3 (st.take r) (some ⟨W8.heap.size, 0, none⟩) 2 2 [x, x] rfl rfl HDa.out.own rfl (by simp) HRD.out (by omega) hszW ?_
      intro g5 c5 w9 hown9 hgr9 hat9
      have HPUT : Hid (_ ∧ _ ∧ _) := Dk.put HBa.out HDa.out hown9 hgr9 (by simpa using hat9)
      have HG9 := HBa.out.grown HDa.out hgr9
      have kz := row2_cells HPUT.out.1
      refine hK.out _ _ ?_ (fun hHeld2 => ?_)
      · exact HG9.six
      clear hK K hown9 hgr9 hat9 HG9
      try simp only [Act.put, List.setIfInBounds_toArray]
      refine wpAnyH_take (i := 16) (v := ?_) rfl (by kernel_rfl) (by kernel_rfl) (by kernel_rfl) (fun _ _ _ h => h) (Or.inl ⟨by rfl, ?_⟩) (by assumption) ?_
      rotate_left
      · intro w_ hSw; (try dsimp only at hSw); go_simp <;> with_reducible rfl
      try simp only [Act.put, List.setIfInBounds_toArray, List.set_cons_zero, List.set_cons_succ, List.getElem_toArray, List.getElem_cons_zero, List.getElem_cons_succ]
      clear hHeld2
      refine wpAnyH_ready (rs := [17]) (by kernel_rfl) (by simp) ?_
      refine AllReadyH.cons rfl (fun K hK => ?_) AllReadyH.nil
      go_simp
      refine hK.out _ _ ?_ (fun hHeld2 => ?_)
      · exact HPUT.out.2.1.six
      clear hHeld2 hK K kz
      refine wpAnyH_done (by kernel_rfl) ?_ _
      (try go_wp2_with fail)
      go_meet
      exact ⟨g5, c5, HPUT.out.2.1, HPUT.out.2.2⟩
  case rest =>
  clear HB HD
  rename World => W9
  obtain ⟨g5, c5, HB, HD⟩ := hcut
  rename_i KK hKK
  refine hKK _ _ ?_
  exact specOver w pc (some ⟨gq, oq, none⟩) st n cp ad ce m ca f s t 11 arg T r U V ce (st.take r ++ [x, x]) (pc + 1) 0 0 0 (r + 2) k13 k14 kd kA kE g1 c1 g5 c5 g4 c4 W9 _ _ _ _ _ _ _ _ _ _ _ _ _ _ _ _ _ _ _ _ _ _ _ _ _ _ _ _ _ _ _ _ _ _ _ _ _ _ _ _ _ _ _ _ _ _ _ _ _ _ _ _ _ _ _ _ _ _ _ _ _ _ _ _ _ _ _ _ _ _ _ _ _ _ _ _ _ _ _ _ _ _ _ _ _ _ _ _ _ _ _ _ _ _ _ _ _ _ _ _ _ _ _ _ _ _ _ _ _ _ _ _ _ _ _ _ _ _ _ _ _ _ _ _ _ _ _ _ _ _ _ _ _ _ _ _ _ _ _ _ _ _ _ _ _ _ _ _ _ _ _ _ _ _ _ _ _ _ _ _ _ _ _ _ _ _ _ _ _ _ _ _ _ _ _ _ _ _ _ _ _ _ _ _ _ _ _ _ _ _ _ _ _ _ _ _ _ _ _ _ _ _ _ _ _ _ _ _ _ _ _ _ _ _ _ _ _ _ _ _ _ _ _ _ _ _ _ _ _ _ _ _ _ _ _ _ _ _ _ _ _ _ _ _ _ _ _ _ _ _ _ _ _ _ _ _ _ _ _ _ _ _ _ _ _ _ _ _ _ _ hnr hru hov hla hm hra HB.out HD.out
end Go.Proofs.Ythnocibkgpofnaa
