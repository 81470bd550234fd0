/-
  Drawn rules: the contract of the specification's draw of rules.
-/
import Derived.Test.YtadbekhekggpkaaDoorRul9
import Derived.Test.YtadbekhekggpkaaDoorDrawPY
import Derived.Deep.DeepCutAuto
namespace Go.Proofs.YtadbekhekggpkaaDoor
open Go.RowKit Go.PlainAid
set_option linter.unusedVariables false

theorem appU1 {ops : Array Oper} {o : Oper} {a : Act} {K : Act → World → Prop} {Q : Exit → Act → World → Prop} {E : Prop} {W : World} (hw : Region.wanted o (yielded ops a.tmps) = true) (s x : Operand)
    (ho : o.op = .call { callee := .builtin .append, args := #[s, x], argTypes := #[27, 27] }) (B e g n c lo : Nat) (l : List Rule)
    (hs : a.eval s = .slice (some ⟨e, 0, none⟩) 0 0) (hx : a.eval x = .slice (some ⟨g, 0, none⟩) n c)
    (hown : OwnU W B (.slice (some ⟨e, 0, none⟩) 0 0) 0 []) (hr : OwnU W B (.slice (some ⟨g, 0, none⟩) n c) n l) (n4 : n ≤ 8) (hB : B ≤ W.heap.size) (hlo : lo ≤ W.heap.size) (hle : lo ≤ e)
    (h : ∀ g7 cap w', OwnU w' B (.slice (some ⟨g7, 0, none⟩) n cap) n l → W.grownBy w' (some e) → lo ≤ g7 → K (a.put o.dst (.slice (some ⟨g7, 0, none⟩) n cap)) w') :
    if Region.wanted o (yielded ops a.tmps) = true then Oper.wp Tryd.prog o a W K Q else E := by
  obtain ⟨i0, hi, hz0, hz1, hz2⟩ := info_parts infoU
  rw [if_pos hw]
  obtain ⟨v', w', hrun, h1, h2, h3, h4⟩ := run_append_own_at (P := Tryd.prog) W B 27 o.type 33 i0 (.agg #[.int .i64 0, .int .i64 0, .int .i64 0]) 3 24 Tryd.underlying27 hi hz0 hz1 hz2 rfl (by decide) _ 0 _ hown ⟨g, 0, none⟩ n c (rulV l) (by rw [rulV_len, hr.len]) hr.news (rulV_one l) (by unfold maxLen; omega) (by omega) hB
  rw [Nat.zero_add] at h1
  obtain ⟨g7, c7, rfl, h5⟩ : ∃ g7 c7, v' = .slice (some ⟨g7, 0, none⟩) n c7 ∧ lo ≤ g7 := by
    rcases h1.2 with ⟨e1, _⟩ | ⟨g7, c7, cur, rfl, _⟩
    · have := (h3.1 e1).1
      cases this
    · refine ⟨g7, c7, rfl, ?_⟩
      rcases h4 with h4 | h4
      · cases h4; exact hle
      · cases h4; exact hlo
  unfold Oper.wp execOp
  simp only [ho, resolve, invoke, builtin, Sem.run_bind, Sem.run_pure, Result.andThen_ok, List.map_toArray, List.map_cons, List.map_nil, hs, hx, hrun]
  exact h g7 c7 w' h1 h2 h5

theorem appU2 {ops : Array Oper} {o : Oper} {a : Act} {K : Act → World → Prop} {Q : Exit → Act → World → Prop} {E : Prop} {W : World} (hw : Region.wanted o (yielded ops a.tmps) = true) (s x : Operand)
    (ho : o.op = .call { callee := .builtin .append, args := #[s, x], argTypes := #[27, 27] }) (B r n c : Nat) (q : Option Addr) (f t z : Int) (l : List Rule)
    (hs : a.eval s = .slice q n c) (hx : a.eval x = .slice (some ⟨r, 0, none⟩) 1 1)
    (hown : OwnU W B (.slice q n c) n l) (hr : W.heap[r]? = some (.cells #[.int .i64 f, .int .i64 t, .int .i64 z] 33)) (n4 : n ≤ 8) (hB : B ≤ W.heap.size)
    (h : ∀ g' cap w', OwnU w' B (.slice (some ⟨g', 0, none⟩) (n + 1) cap) (n + 1) (l ++ [(f, t, z)]) → W.grownBy w' (Value.slice q n c).ownBlock → K (a.put o.dst (.slice (some ⟨g', 0, none⟩) (n + 1) cap)) w') :
    if Region.wanted o (yielded ops a.tmps) = true then Oper.wp Tryd.prog o a W K Q else E := by
  obtain ⟨i0, hi, hz0, hz1, hz2⟩ := info_parts infoU
  rw [if_pos hw]
  refine wp_append_lies W s x 27 ho B 33 i0 (.agg #[.int .i64 0, .int .i64 0, .int .i64 0]) 3 24 Tryd.underlying27 hi hz0 hz1 hz2 rfl (by decide) _ n _ hs hown ⟨r, 0, none⟩ 1 1 [.int .i64 f, .int .i64 t, .int .i64 z] hx rfl (World.news_of_block (cs := #[.int .i64 f, .int .i64 t, .int .i64 z]) hr) (by intro u hu; simp at hu; rcases hu with rfl | rfl | rfl <;> rfl) (by omega) (by unfold maxLen; omega) (by omega) hB _ rfl ?_
  intro g' cap w' h1 h2 _ _
  refine h g' cap w' ?_ h2
  unfold OwnU
  rw [rulV_append]
  exact h1

/-- what stands while rules are drawn -/
structure DU (w W : World) (C B : Nat) (a : Option Addr) (len cap : Nat) (g n c : Nat) (l : List Rule) (k : Nat) (x y z : Int) : Prop where
  d : Drawn w W C B a len cap
  o : OwnU W w.heap.size (.slice (some ⟨g, 0, none⟩) n c) n l
  row : W.heap[k]? = some (.cells #[.int .i64 x, .int .i64 y, .int .i64 z] 33)
  hC : C < w.heap.size
  hB : B ≤ C
  hk : w.heap.size ≤ k
  hg : g ≠ k
section
variable {w W W' : World} {C B : Nat} {a : Option Addr} {len cap : Nat} {g n c : Nat} {l : List Rule} {k : Nat} {x y z : Int}
theorem DU.drew (h : DU w W C B a len cap g n c l k x y z) : DU w W.drew C B a len cap g n c l k x y z := ⟨P.drawn_drew h.d, h.o, h.row, h.hC, h.hB, h.hk, h.hg⟩
theorem DU.al (h : DU w W C B a len cap g n c l k x y z) (o : Obj) : DU w (W.alloc o) C B a len cap g n c l k x y z :=
  ⟨drawn_alloc h.d (by have := h.d.2.2.size; have := h.hC; have := h.hB; omega) o, World.ownsRow.alloc h.o o, row_on h.row ((Below.refl _ _).alloc (Nat.le_refl _) _), h.hC, h.hB, h.hk, h.hg⟩
/-- behind a change of one new block, which is neither the list's nor the rule's -/
theorem DU.gr {e : Option Nat} (h : DU w W C B a len cap g n c l k x y z) (hg : W.grownBy W' e) (he : ∀ b, e = some b → w.heap.size ≤ b ∧ b ≠ g ∧ b ≠ k) : DU w W' C B a len cap g n c l k x y z := by
  refine ⟨⟨?_, ?_, ?_⟩, ?_, ?_, h.hC, h.hB, h.hk, h.hg⟩
  · obtain ⟨j, u, hj, hc⟩ := h.d.1
    refine ⟨j, u, hj, ?_⟩
    unfold CurAt at hc ⊢
    exact (hg.block C (row_lt hc) (fun e' => by have := (he C e'.symm).1; have := h.hC; omega)).trans hc
  · refine code_below h.d.2.1 ((Below.refl _ _).grown hg ?_ (fun b hb => by have := (he b hb).1; have := h.hC; have := h.hB; omega))
    have := h.d.2.2.size; have := h.hC; have := h.hB; omega
  · have hd := h.d.2.2
    exact ⟨hg.os.trans hd.os, hg.tape.trans hd.tape, hg.output.trans hd.output, Nat.le_trans hd.size hg.size, fun i hi hne => (hg.block i (Nat.lt_of_lt_of_le hi hd.size) (fun e' => by have := (he i e'.symm).1; omega)).trans (hd.block i hi hne)⟩
  · exact World.ownsRow.kept h.o hg (.inr (fun e' => by
      cases he' : e with
      | none => rw [he'] at e'; cases e'
      | some b => rw [he'] at e'; cases e'; exact (he g he').2.1 rfl))
  · exact (hg.block k (row_lt h.row) (fun e' => (he k e'.symm).2.2 rfl)).trans h.row
theorem DU.on (h : DU w W C B a len cap g n c l k x y z) (hD : Drawn W W' C B a len cap) : DU w W' C B a len cap g n c l k x y z :=
  ⟨drawn_trans h.d hD, own_gr h.o hD.2.2 h.hC, P.row_drawn h.row hD.2.2 (by have := h.hC; have := h.hk; omega), h.hC, h.hB, h.hk, h.hg⟩
theorem DU.put2 (h : DU w W C B a len cap g n c l k x y z) (u : Int) : DU w (W.setCell ⟨k, 2, none⟩ (.int .i64 u)) C B a len cap g n c l k x y u := by
  refine ⟨P.drawn_put h.d _ _ h.hk h.hC h.hB, ?_, P.set1_row h.row, h.hC, h.hB, h.hk, h.hg⟩
  refine ⟨h.o.1, ?_⟩
  rcases h.o.2 with h2 | ⟨g', cap', cur', hv, hg', hh, h3⟩
  · exact .inl h2
  · cases hv
    exact .inr ⟨g, _, cur', rfl, hg', P.set_other hh h.hg, h3⟩
theorem DU.conj (h : DU w W C B a len cap g n c l k x y z) : W.cell? ⟨k, 0, none⟩ = some (.int .i64 x) ∧ W.cell? ⟨k, 1, none⟩ = some (.int .i64 y) ∧ W.cell? ⟨k, 2, none⟩ = some (.int .i64 z) ∧ DU w W C B a len cap g n c l k x y z :=
  ⟨(row3_cells h.row).1.1, (row3_cells h.row).1.2.1, (row3_cells h.row).1.2.2, h⟩
end
theorem du_of {w W : World} {C B : Nat} {a : Option Addr} {len cap g n c : Nat} {l : List Rule} {k : Nat} {x y z : Int} {P1 P2 P3 : Prop} (h : P1 ∧ P2 ∧ P3 ∧ DU w W C B a len cap g n c l k x y z) : DU w W C B a len cap g n c l k x y z := h.2.2.2
theorem rowA3 (w : World) (E R : Obj) : ((w.alloc E).alloc R).heap[w.heap.size]? = some E := (Below.heap_alloc _ _ _ (by simp)).trans (heap_new w E)
theorem rowB3 (w : World) (E R : Obj) : ((w.alloc E).alloc R).heap[w.heap.size + 1]? = some R := by
  have h := heap_new (w.alloc E) R
  have e : (w.alloc E).heap.size = w.heap.size + 1 := by simp
  rw [e] at h
  exact h
theorem drawn_bel {w W W' : World} {C B : Nat} {a : Option Addr} {len cap : Nat} (h : Drawn w W C B a len cap) (hb : Below W.heap.size W W') (hB : B ≤ w.heap.size) : Drawn w W' C B a len cap := by
  refine ⟨?_, code_below h.2.1 (hb.mono (Nat.le_trans hB h.2.2.size)), ?_⟩
  · obtain ⟨j, u, hj, hc⟩ := h.1
    refine ⟨j, u, hj, ?_⟩
    unfold CurAt at hc ⊢
    exact row_on hc hb
  · have hd := h.2.2
    exact ⟨hb.os.trans hd.os, hb.tape.trans hd.tape, hb.output.trans hd.output, Nat.le_trans hd.size hb.size, fun i hi hne => (hb.block i (Nat.lt_of_lt_of_le hi hd.size)).trans (hd.block i hi hne)⟩
/-- rules of so many parts -/
def RulesOf (parts : Int) (l : List Rule) : Prop := ∀ r ∈ l, r.1 ≤ parts

theorem rulesOf_add {parts : Int} {l : List Rule} {p f t : Int} (h : RulesOf parts l) (hp : p ≤ parts) : RulesOf parts (l ++ [(p, f, t)]) := fun r hr => by
  rcases List.mem_append.1 hr with h' | h'
  · exact h r h'
  · simp at h'
    subst h'
    exact hp

set_option maxRecDepth 100000 in
set_option maxHeartbeats 4000000 in
theorem rulesD (C B : Nat) (a : Option Addr) (len cap : Nat) (parts : Int) (p1 : 1 ≤ parts) (p4 : parts ≤ 4) (w : World) (hC : Cur w C a len cap) (hB : B ≤ C) (hcode : CodeOk w B a len) :
    Calls Tryd.prog 45 #[.pointer (some ⟨C, 0, none⟩), .int .i64 parts] w fun e w' => ∃ (v : Value) (n : Nat) (l : List Rule), e = .returned v ∧ RulesR l ∧ RulesOf parts l ∧ OwnU w' w.heap.size v n l ∧ Drawn w w' C B a len cap := by
  have hlt := cur_lt hC
  have HD0 : Hid (Drawn w (w.alloc (.cells #[] 33)) C B a len cap) := drawn_alloc ⟨hC, hcode, World.grownBy.refl _ _⟩ (by omega) _
  have HO0 : Hid (OwnU _ _ _ _ _) := ownU_empty w w.heap.size w.heap.size rfl (Nat.le_refl _)
  clear hC hcode
  go_enter Tryd.func45, Tryd.ntmps45
  go_wp2
  go_loopg [5, 6] 5 (fun gk v iv wr => ∃ (i g n c : Nat) (l : List Rule), i + gk = 5 ∧ iv = .int .i64 i ∧ v = .slice (some ⟨g, 0, none⟩) n c ∧ n ≤ i ∧ Hid (RulesR l ∧ RulesOf parts l) ∧ Hid (OwnU wr w.heap.size (.slice (some ⟨g, 0, none⟩) n c) n l) ∧ Hid (Drawn w wr C B a len cap))
  case atStart => exact ⟨0, w.heap.size, 0, 0, [], by omega, rfl, rfl, by omega, ⟨⟨fun i h => by simp at h, by simp⟩, fun r h => by cases h⟩, HO0, HD0⟩
  case round =>
    clear HD0 HO0
    obtain ⟨i, g, n, c, l, hi5, rfl, rfl, hni, HA, HO, HD⟩ := hrel
    go_wp2_with fail
    refine (below28 C B a len cap 6 (by omega) (by omega) _ HD.out.1 hB HD.out.2.1).mono ?_
    rintro e w2 ⟨x, rfl, x0, x1, hD⟩
    have HD2 : Hid (Drawn w w2 C B a len cap) := drawn_trans HD.out hD
    have HO2 : Hid (OwnU w2 w.heap.size (.slice (some ⟨g, 0, none⟩) n c) n l) := own_gr HO.out hD.2.2 hlt
    clear hD HD HO
    by_cases hx : (i : Int) < x
    · go_wp2_with fail
      refine (below28 C B a len cap parts (by omega) (by omega) _ HD2.out.1 hB HD2.out.2.1).mono ?_
      rintro e w3 ⟨y, rfl, y0, y1, hD⟩
      have HD3 : Hid (Drawn w w3 C B a len cap) := drawn_trans HD2.out hD
      have HO3 : Hid (OwnU w3 w.heap.size (.slice (some ⟨g, 0, none⟩) n c) n l) := own_gr HO2.out hD.2.2 hlt
      clear hD HD2 HO2
      go_wp2_with fail
      refine (below28 C B a len cap 2 (by omega) (by omega) _ HD3.out.1 hB HD3.out.2.1).mono ?_
      rintro e w4 ⟨z, rfl, z0, z1, hD⟩
      have HD4 : Hid (Drawn w w4 C B a len cap) := drawn_trans HD3.out hD
      have HO4 : Hid (OwnU w4 w.heap.size (.slice (some ⟨g, 0, none⟩) n c) n l) := own_gr HO3.out hD.2.2 hlt
      clear hD HD3 HO3
      go_wp2_with fail
      refine (below28 C B a len cap 3 (by omega) (by omega) _ HD4.out.1 hB HD4.out.2.1).mono ?_
      rintro e w5 ⟨u, rfl, u0, u1, hD⟩
      have HD5 : Hid (Drawn w w5 C B a len cap) := drawn_trans HD4.out hD
      have HO5 : Hid (OwnU w5 w.heap.size (.slice (some ⟨g, 0, none⟩) n c) n l) := own_gr HO4.out hD.2.2 hlt
      have s5 := HD5.out.2.2.size
      have g5 : g < w5.heap.size := own_lt HO5.out g rfl
      have gB : w.heap.size ≤ g := own_ge HO5.out g rfl
      clear hD HD4 HO4
      obtain ⟨pp, hpp⟩ : ∃ pp, 1 + y = pp := ⟨_, rfl⟩
      obtain ⟨ff, hff⟩ : ∃ ff, 1 + z = ff := ⟨_, rfl⟩
      obtain ⟨aa, haa⟩ : ∃ aa, 1 + u = aa := ⟨_, rfl⟩
      have HP : Hid (pp ≤ parts) := by show pp ≤ parts; omega
      have HS5 : Hid (DU w (w5.alloc (.cells #[.int .i64 pp, .int .i64 ff, .int .i64 aa] 33)) C B a len cap g n c l w5.heap.size pp ff aa) :=
        ⟨drawn_alloc HD5.out (by omega) _, World.ownsRow.alloc HO5.out _, heap_new w5 _, hlt, hB, s5, by omega⟩
      clear HD5 HO5
      go_wp2_with fail
      refine (P.onceR C B a len cap 8 (by omega) (by omega) _ HS5.out.d.1 hB HS5.out.d.2.1).mono ?_
      rintro e w6 ⟨bo, rfl, hD⟩
      have HS6 : Hid (DU w w6 C B a len cap g n c l w5.heap.size pp ff aa) := HS5.out.on hD
      clear hD HS5
      have k6 := row3_cells HS6.out.row
      cases bo
      · go_wp2_with fail
        obtain ⟨wE, hE⟩ : ∃ wE, wE = w6 := ⟨_, rfl⟩
        have HS : Hid (DU w wE C B a len cap g n c l w5.heap.size pp ff aa) := by rw [hE]; exact HS6.out
        rw [← hE]
        clear hE HS6 k6
        have sE := HS.out.d.2.2.size
        have HN8 : Hid (n ≤ 8) := by show n ≤ 8; omega
        have gE : g < wE.heap.size := own_lt HS.out.o g rfl
        have kE : w5.heap.size < wE.heap.size := row_lt HS.out.row
        have HG1 : Hid (w.heap.size ≤ wE.heap.size ∧ wE.heap.size ≠ g ∧ wE.heap.size ≠ w5.heap.size) := by refine ⟨?_, ?_, ?_⟩ <;> omega
        have HG2 : Hid (w.heap.size ≤ wE.heap.size + 1 ∧ wE.heap.size + 1 ≠ g ∧ wE.heap.size + 1 ≠ w5.heap.size) := by refine ⟨?_, ?_, ?_⟩ <;> omega
        obtain ⟨b2, hb2⟩ := rules_bool (l ++ [(pp, ff, aa)])
        have HB2 : Hid (b2 = true ↔ RulesR (l ++ [(pp, ff, aa)])) := hb2
        have HOf : Hid (RulesOf parts (l ++ [(pp, ff, aa)])) := rulesOf_add HA.out.2 HP.out
        clear hb2 HP
        go_region_held3 (fun w' => w'.cell? ⟨w5.heap.size, 0, none⟩ = some (.int .i64 pp) ∧ w'.cell? ⟨w5.heap.size, 1, none⟩ = some (.int .i64 ff) ∧ w'.cell? ⟨w5.heap.size, 2, none⟩ = some (.int .i64 aa) ∧ DU w w' C B a len cap g n c l w5.heap.size pp ff aa)
          (first | (with_reducible exact DU.conj HZ.out) | (with_reducible exact DU.conj HS.out.drew) | (refine DU.conj (DU.al (du_of (by assumption)) _)))
          (first
            | (refine appU1 rfl (.tmp 30) (.tmp 31) rfl w.heap.size wE.heap.size g n c wE.heap.size l rfl rfl (by first | exact ownU_empty wE.drew w.heap.size wE.heap.size rfl sE | exact World.ownsRow.alloc (ownU_empty wE.drew w.heap.size wE.heap.size rfl sE) _) (du_of (by assumption)).o HN8.out (du_of (by assumption)).d.2.2.size (by simp; try omega) (by omega) ?_; intro g7 c7 w7 hown7 hgr7 hg7; have HG3 : Hid (w.heap.size ≤ g7 ∧ g7 ≠ g ∧ g7 ≠ w5.heap.size) := (by refine ⟨?_, ?_, ?_⟩ <;> omega); have HZ : Hid (DU w w7 C B a len cap g n c l w5.heap.size pp ff aa) := (du_of (by assumption)).gr hgr7 (fun b hb => by cases hb; exact HG1.out); have HO7 : Hid (OwnU w7 w.heap.size (.slice (some ⟨g7, 0, none⟩) n c7) n l) := hown7; (first | (have HR7 : Hid (w7.heap[wE.heap.size + 1]? = some (.cells #[.int .i64 pp, .int .i64 ff, .int .i64 aa] 33)) := grown_row hgr7 (rowB3 _ _ _) (by simp)) | skip))
            | (refine appU1 rfl (.tmp 30) (.tmp 31) rfl w.heap.size (wE.heap.size + 1) g n c wE.heap.size l rfl rfl (ownU_empty (wE.drew.alloc _) w.heap.size (wE.heap.size + 1) (by simp) (by simp; omega)) (du_of (by assumption)).o HN8.out (du_of (by assumption)).d.2.2.size (by simp; try omega) (by omega) ?_; intro g7 c7 w7 hown7 hgr7 hg7; have HG3 : Hid (w.heap.size ≤ g7 ∧ g7 ≠ g ∧ g7 ≠ w5.heap.size) := (by refine ⟨?_, ?_, ?_⟩ <;> omega); have HZ : Hid (DU w w7 C B a len cap g n c l w5.heap.size pp ff aa) := (du_of (by assumption)).gr hgr7 (fun b hb => by cases hb; exact HG2.out); have HO7 : Hid (OwnU w7 w.heap.size (.slice (some ⟨g7, 0, none⟩) n c7) n l) := hown7; have HR7 : Hid (w7.heap[wE.heap.size]? = some (.cells #[.int .i64 pp, .int .i64 ff, .int .i64 aa] 33)) := grown_row hgr7 (rowA3 _ _ _) (by simp))
            | (first
                | (refine appU2 rfl (.tmp 32) (.tmp 34) rfl w.heap.size wE.heap.size n c7 (some ⟨g7, 0, none⟩) pp ff aa l rfl rfl HO7.out HR7.out HN8.out (du_of (by assumption)).d.2.2.size ?_)
                | (refine appU2 rfl (.tmp 32) (.tmp 34) rfl w.heap.size (wE.heap.size + 1) n c7 (some ⟨g7, 0, none⟩) pp ff aa l rfl rfl HO7.out HR7.out HN8.out (du_of (by assumption)).d.2.2.size ?_)
                | (refine appU2 rfl (.tmp 32) (.tmp 34) rfl w.heap.size w7.heap.size n c7 (some ⟨g7, 0, none⟩) pp ff aa l rfl rfl (World.ownsRow.alloc HO7.out _) (heap_new w7 _) HN8.out (du_of (by assumption)).d.2.2.size ?_)
               intro g8 c8 w8 hown8 hgr8
               have HO8 : Hid (OwnU w8 w.heap.size (.slice (some ⟨g8, 0, none⟩) (n + 1) c8) (n + 1) (l ++ [(pp, ff, aa)])) := hown8
               have HZ : Hid (DU w w8 C B a len cap g n c l w5.heap.size pp ff aa) := (du_of (by assumption)).gr hgr8 (fun b hb => by cases hb; exact HG3.out)
               clear hown8 hgr8))
        all_goals clear HS HG1 HG2
        all_goals (try clear HG3 HO7)
        all_goals (try clear HR7)
        all_goals
          go_wp2_with fail
          refine (rulesS (some ⟨g8, 0, none⟩) (l ++ [(pp, ff, aa)]) (n + 1) c8 b2 HO8.out.len (by omega) HB2.out _ HO8.out.rd).mono ?_
          rintro e w9 ⟨rfl, hb9⟩
          have HD9 : Hid (Drawn w w9 C B a len cap) := drawn_bel HZ.out.d hb9 (by omega)
          have HO9 : Hid (OwnU w9 w.heap.size (.slice (some ⟨g8, 0, none⟩) (n + 1) c8) (n + 1) (l ++ [(pp, ff, aa)])) := own_keep HO8.out hb9 (own_lt HO8.out)
          have HP9 : Hid (OwnU w9 w.heap.size (.slice (some ⟨g, 0, none⟩) n c) n l) := own_keep HZ.out.o hb9 (own_lt HZ.out.o)
          clear hb9 HZ HO8
          cases b2
          · go_wp2
            go_roundg (gk - 1)
            case measure => omega
            case rel => exact ⟨i + 1, g, n, c, l, by omega, by go_num, rfl, by omega, HA, HP9, HD9⟩
          · go_wp2
            go_roundg (gk - 1)
            case measure => omega
            case rel => exact ⟨i + 1, g8, n + 1, c8, l ++ [(pp, ff, aa)], by omega, by go_num, rfl, by omega, ⟨(by first | exact HB2.out.1 rfl | exact HB2.out.1 trivial), HOf.out⟩, HO9, HD9⟩
      · go_wp2_with fail
        obtain ⟨wE, hE⟩ : ∃ wE, wE = (w6.setCell ⟨w5.heap.size, 2, none⟩ (.int .i64 4)) := ⟨_, rfl⟩
        have HS : Hid (DU w wE C B a len cap g n c l w5.heap.size pp ff 4) := by rw [hE]; exact HS6.out.put2 4
        rw [← hE]
        clear hE HS6 k6
        have sE := HS.out.d.2.2.size
        have HN8 : Hid (n ≤ 8) := by show n ≤ 8; omega
        have gE : g < wE.heap.size := own_lt HS.out.o g rfl
        have kE : w5.heap.size < wE.heap.size := row_lt HS.out.row
        have HG1 : Hid (w.heap.size ≤ wE.heap.size ∧ wE.heap.size ≠ g ∧ wE.heap.size ≠ w5.heap.size) := by refine ⟨?_, ?_, ?_⟩ <;> omega
        have HG2 : Hid (w.heap.size ≤ wE.heap.size + 1 ∧ wE.heap.size + 1 ≠ g ∧ wE.heap.size + 1 ≠ w5.heap.size) := by refine ⟨?_, ?_, ?_⟩ <;> omega
        obtain ⟨b2, hb2⟩ := rules_bool (l ++ [(pp, ff, 4)])
        have HB2 : Hid (b2 = true ↔ RulesR (l ++ [(pp, ff, 4)])) := hb2
        have HOf : Hid (RulesOf parts (l ++ [(pp, ff, 4)])) := rulesOf_add HA.out.2 HP.out
        clear hb2 HP
        go_region_held3 (fun w' => w'.cell? ⟨w5.heap.size, 0, none⟩ = some (.int .i64 pp) ∧ w'.cell? ⟨w5.heap.size, 1, none⟩ = some (.int .i64 ff) ∧ w'.cell? ⟨w5.heap.size, 2, none⟩ = some (.int .i64 4) ∧ DU w w' C B a len cap g n c l w5.heap.size pp ff 4)
          (first | (with_reducible exact DU.conj HZ.out) | (with_reducible exact DU.conj HS.out.drew) | (refine DU.conj (DU.al (du_of (by assumption)) _)))
          (first
            | (refine appU1 rfl (.tmp 30) (.tmp 31) rfl w.heap.size wE.heap.size g n c wE.heap.size l rfl rfl (by first | exact ownU_empty wE.drew w.heap.size wE.heap.size rfl sE | exact World.ownsRow.alloc (ownU_empty wE.drew w.heap.size wE.heap.size rfl sE) _) (du_of (by assumption)).o HN8.out (du_of (by assumption)).d.2.2.size (by simp; try omega) (by omega) ?_; intro g7 c7 w7 hown7 hgr7 hg7; have HG3 : Hid (w.heap.size ≤ g7 ∧ g7 ≠ g ∧ g7 ≠ w5.heap.size) := (by refine ⟨?_, ?_, ?_⟩ <;> omega); have HZ : Hid (DU w w7 C B a len cap g n c l w5.heap.size pp ff 4) := (du_of (by assumption)).gr hgr7 (fun b hb => by cases hb; exact HG1.out); have HO7 : Hid (OwnU w7 w.heap.size (.slice (some ⟨g7, 0, none⟩) n c7) n l) := hown7; (first | (have HR7 : Hid (w7.heap[wE.heap.size + 1]? = some (.cells #[.int .i64 pp, .int .i64 ff, .int .i64 4] 33)) := grown_row hgr7 (rowB3 _ _ _) (by simp)) | skip))
            | (refine appU1 rfl (.tmp 30) (.tmp 31) rfl w.heap.size (wE.heap.size + 1) g n c wE.heap.size l rfl rfl (ownU_empty (wE.drew.alloc _) w.heap.size (wE.heap.size + 1) (by simp) (by simp; omega)) (du_of (by assumption)).o HN8.out (du_of (by assumption)).d.2.2.size (by simp; try omega) (by omega) ?_; intro g7 c7 w7 hown7 hgr7 hg7; have HG3 : Hid (w.heap.size ≤ g7 ∧ g7 ≠ g ∧ g7 ≠ w5.heap.size) := (by refine ⟨?_, ?_, ?_⟩ <;> omega); have HZ : Hid (DU w w7 C B a len cap g n c l w5.heap.size pp ff 4) := (du_of (by assumption)).gr hgr7 (fun b hb => by cases hb; exact HG2.out); have HO7 : Hid (OwnU w7 w.heap.size (.slice (some ⟨g7, 0, none⟩) n c7) n l) := hown7; have HR7 : Hid (w7.heap[wE.heap.size]? = some (.cells #[.int .i64 pp, .int .i64 ff, .int .i64 4] 33)) := grown_row hgr7 (rowA3 _ _ _) (by simp))
            | (first
                | (refine appU2 rfl (.tmp 32) (.tmp 34) rfl w.heap.size wE.heap.size n c7 (some ⟨g7, 0, none⟩) pp ff 4 l rfl rfl HO7.out HR7.out HN8.out (du_of (by assumption)).d.2.2.size ?_)
                | (refine appU2 rfl (.tmp 32) (.tmp 34) rfl w.heap.size (wE.heap.size + 1) n c7 (some ⟨g7, 0, none⟩) pp ff 4 l rfl rfl HO7.out HR7.out HN8.out (du_of (by assumption)).d.2.2.size ?_)
                | (refine appU2 rfl (.tmp 32) (.tmp 34) rfl w.heap.size w7.heap.size n c7 (some ⟨g7, 0, none⟩) pp ff 4 l rfl rfl (World.ownsRow.alloc HO7.out _) (heap_new w7 _) HN8.out (du_of (by assumption)).d.2.2.size ?_)
               intro g8 c8 w8 hown8 hgr8
               have HO8 : Hid (OwnU w8 w.heap.size (.slice (some ⟨g8, 0, none⟩) (n + 1) c8) (n + 1) (l ++ [(pp, ff, 4)])) := hown8
               have HZ : Hid (DU w w8 C B a len cap g n c l w5.heap.size pp ff 4) := (du_of (by assumption)).gr hgr8 (fun b hb => by cases hb; exact HG3.out)
               clear hown8 hgr8))
        all_goals clear HS HG1 HG2
        all_goals (try clear HG3 HO7)
        all_goals (try clear HR7)
        all_goals
          go_wp2_with fail
          refine (rulesS (some ⟨g8, 0, none⟩) (l ++ [(pp, ff, 4)]) (n + 1) c8 b2 HO8.out.len (by omega) HB2.out _ HO8.out.rd).mono ?_
          rintro e w9 ⟨rfl, hb9⟩
          have HD9 : Hid (Drawn w w9 C B a len cap) := drawn_bel HZ.out.d hb9 (by omega)
          have HO9 : Hid (OwnU w9 w.heap.size (.slice (some ⟨g8, 0, none⟩) (n + 1) c8) (n + 1) (l ++ [(pp, ff, 4)])) := own_keep HO8.out hb9 (own_lt HO8.out)
          have HP9 : Hid (OwnU w9 w.heap.size (.slice (some ⟨g, 0, none⟩) n c) n l) := own_keep HZ.out.o hb9 (own_lt HZ.out.o)
          clear hb9 HZ HO8
          cases b2
          · go_wp2
            go_roundg (gk - 1)
            case measure => omega
            case rel => exact ⟨i + 1, g, n, c, l, by omega, by go_num, rfl, by omega, HA, HP9, HD9⟩
          · go_wp2
            go_roundg (gk - 1)
            case measure => omega
            case rel => exact ⟨i + 1, g8, n + 1, c8, l ++ [(pp, ff, 4)], by omega, by go_num, rfl, by omega, ⟨(by first | exact HB2.out.1 rfl | exact HB2.out.1 trivial), HOf.out⟩, HO9, HD9⟩
    · go_wp2
      go_ret
      exact ⟨_, n, l, rfl, HA.out.1, HA.out.2, HO2.out, HD2.out⟩
end Go.Proofs.YtadbekhekggpkaaDoor
