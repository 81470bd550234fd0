/-
  Drawn lines, and what is drawn for a port: the contracts of the specification's draws.
-/
import Derived.Test.YtacpoandikheeaaDrawP8
import Derived.Test.YtacpoandikheeaaTakeI
import Derived.Test.YtacpoandikheeaaStage18
namespace Go.Proofs.Ytacpoandikheeaa
open Go.RowKit Go.PlainAid
set_option linter.unusedVariables false

theorem run_appW (W : World) (ty : TypeId) (B : Nat) (v : Value) (l : List (Int × Int)) (g2 : Nat) (p : Int × Int) (hown : OwnW W B v l) (hr : RdR W (some ⟨g2, 0, none⟩) [p]) (hn : l.length + 1 ≤ 3000000) (hB : B ≤ W.heap.size) :
    ∃ v' w', (Builtin.append_ #[28, 28] ty #[v, .slice (some ⟨g2, 0, none⟩) 1 1]).run Try.prog W = .ok v' w' ∧ OwnW w' B v' (l ++ [p]) ∧ W.grownBy w' v.ownBlock := by
  obtain ⟨i0, hi, hz0, hz1, hz2⟩ := info_parts infoR
  obtain ⟨v', w', hrun, h2, h3, h4, h5⟩ := run_append_own_at (P := Try.prog) W B 28 ty 52 i0 (.agg #[.int .i64 0, .int .i64 0]) 2 16 Try.underlying28 hi hz0 hz1 hz2 rfl (by decide) _ l.length _ hown ⟨g2, 0, none⟩ 1 1 (regsV [p]) (by rw [regsV_len]; rfl) hr.cells (regsV_one [p]) (by unfold maxLen; omega) (by omega) hB
  refine ⟨v', w', hrun, ?_, h3⟩
  unfold OwnW
  rw [regsV_append, List.length_append]
  exact h2
theorem wpW {o : Oper} {a : Act} {K : Act → World → Prop} {Q : Exit → Act → World → Prop} (W : World) (s x : Operand)
    (ho : o.op = .call { callee := .builtin .append, args := #[s, x], argTypes := #[28, 28] }) (B : Nat) (v : Value) (l : List (Int × Int)) (g2 : Nat) (p : Int × Int)
    (hs : a.eval s = v) (hx : a.eval x = .slice (some ⟨g2, 0, none⟩) 1 1) (hown : OwnW W B v l) (hr : RdR W (some ⟨g2, 0, none⟩) [p]) (hn : l.length + 1 ≤ 3000000) (hB : B ≤ W.heap.size)
    (h : ∀ v' w', OwnW w' B v' (l ++ [p]) → W.grownBy w' v.ownBlock → K (a.put o.dst v') w') : o.wp Try.prog a W K Q := by
  obtain ⟨v', w', hrun, h2, h3⟩ := run_appW W o.type B v l g2 p hown hr hn hB
  unfold Oper.wp execOp
  simp only [ho, resolve, invoke, builtin, Sem.run_bind, Sem.run_pure, Result.andThen_ok, List.map_toArray, List.map_cons, List.map_nil, hs, hx, hrun]
  exact h v' w' h2 h3
/-- all that a walk asks of an owned list -/
theorem OwnW.full {w : World} {B : Nat} {v : Value} {rl : List (Int × Int)} (h : OwnW w B v rl) : ∃ a cap, v = .slice a rl.length cap ∧ OwnM w B a rl ∧ (a = none → rl.length = 0 ∧ cap = 0) ∧ rl.length ≤ cap := by
  obtain ⟨a, cap, hv, ho⟩ := h.own
  rcases h.2 with ⟨hn, e⟩ | ⟨g, cap', cur, hs, hg, hh, hnc, _⟩
  · rw [hv] at hn
    injection hn with h1 h2 h3
    subst h1 h3
    exact ⟨none, 0, hv, ho, fun _ => ⟨e, rfl⟩, by omega⟩
  · rw [hv] at hs
    injection hs with h1 h2 h3
    subst h1 h3
    exact ⟨_, cap, hv, ho, fun e => (by cases e), hnc⟩
theorem ownW_ne {W : World} {v : Value} {B p : Nat} {l : List (Int × Int)} {cs : Array Value} {t : TypeId} (h : OwnW W B v l) (hp : W.heap[p]? = some (.cells cs t)) (ht : t ≠ 52) : ∀ g, v.ownBlock = some g → g ≠ p := by
  intro g hg
  rcases h.2 with ⟨rfl, _⟩ | ⟨g', cap', cur, rfl, h1, h2, _⟩
  · simp [Value.ownBlock] at hg
  · simp [Value.ownBlock] at hg
    subst hg
    exact row_ne h2 hp (fun e => by cases e; exact ht rfl)
theorem ownW_put {w : World} {B k i : Nat} {v x : Value} {l : List (Int × Int)} (h : OwnW w B v l) (hk : ∀ g, v.ownBlock = some g → g ≠ k) : OwnW (w.setCell ⟨k, i, none⟩ x) B v l := by
  refine ⟨h.1, ?_⟩
  rcases h.2 with h2 | ⟨g, cap, cur, hv, hg, hh, h3⟩
  · exact .inl h2
  · exact .inr ⟨g, cap, cur, hv, hg, set_other hh (hk g (by rw [hv]; rfl)), h3⟩
/-- a line that is being drawn: its box, its list -/
def DL (w W : World) (C B : Nat) (a : Option Addr) (len cap : Nat) (v : Value) (l : List (Int × Int)) : Prop :=
  Drawn w W C B a len cap ∧ W.heap[w.heap.size]? = some (.cells #[.slice none 0 0] 30) ∧ W.heap[w.heap.size + 1]? = some (.cells #[v] 30) ∧ OwnW W (w.heap.size + 1 + 1) v l ∧ C < w.heap.size ∧ B ≤ C ∧ l.length ≤ 100
section
variable {w W W' : World} {C B : Nat} {a : Option Addr} {len cap : Nat} {v : Value} {l : List (Int × Int)}
theorem DL.lt (h : DL w W C B a len cap v l) : C < w.heap.size ∧ w.heap.size + 1 < W.heap.size := ⟨h.2.2.2.2.1, row_lt h.2.2.1⟩
theorem DL.drew (h : DL w W C B a len cap v l) : DL w W.drew C B a len cap v l := ⟨drawn_drew h.1, h.2⟩
theorem DL.al (h : DL w W C B a len cap v l) (o : Obj) : DL w (W.alloc o) C B a len cap v l :=
  ⟨drawn_alloc h.1 (by have := h.lt; have := h.2.2.2.2.2.1; omega) o, row_on h.2.1 (al1_b W o), row_on h.2.2.1 (al1_b W o), h.2.2.2.1.on (al1_b W o), h.2.2.2.2⟩
theorem DL.on (h : DL w W C B a len cap v l) (hD : Drawn W W' C B a len cap) : DL w W' C B a len cap v l :=
  ⟨drawn_trans h.1 hD, row_drawn h.2.1 hD.2.2 (by have := h.lt; omega), row_drawn h.2.2.1 hD.2.2 (by have := h.lt; omega), own_gr h.2.2.2.1 hD.2.2 (by have := h.lt; omega), h.2.2.2.2⟩
theorem DL.app {v' : Value} {p : Int × Int} (h : DL w W C B a len cap v l) (hown : OwnW W' (w.heap.size + 1 + 1) v' (l ++ [p])) (hg : W.grownBy W' v.ownBlock) (hy : (l ++ [p]).length ≤ 100) :
    DL w (W'.setCell ⟨w.heap.size + 1, 0, none⟩ v') C B a len cap v' (l ++ [p]) ∧ W'.heap[w.heap.size + 1]? = some (.cells #[v] 30) := by
  have hge := own_ge h.2.2.2.1
  have hlt := h.lt
  have hBC := h.2.2.2.2.2.1
  have e0 : W'.heap[w.heap.size]? = _ := grown_row hg h.2.1 (fun e => by have := hge _ e; omega)
  have e1 : W'.heap[w.heap.size + 1]? = _ := grown_row hg h.2.2.1 (fun e => ownW_ne h.2.2.2.1 h.2.2.1 (by decide) _ e rfl)
  refine ⟨⟨drawn_put (drawn_grown h.1 hg (fun g hg' => by have := hge g hg'; omega) hlt.1 (by omega)) 0 v' (by omega) hlt.1 hBC, set_other e0 (by omega), set_one e1, ownW_put hown (ownW_ne hown e1 (by decide)), h.2.2.2.2.1, hBC, hy⟩, e1⟩
/-- what is handed back -/
theorem DL.done (h : DL w W C B a len cap v l) : Drawn w (W.setCell ⟨w.heap.size, 0, none⟩ v) C B a len cap ∧ OwnW (W.setCell ⟨w.heap.size, 0, none⟩ v) w.heap.size v l :=
  ⟨drawn_put h.1 0 _ (Nat.le_refl _) h.lt.1 h.2.2.2.2.2.1, (ownW_put h.2.2.2.1 (ownW_ne h.2.2.2.1 h.2.1 (by decide))).mono (by omega)⟩
end

set_option maxRecDepth 100000 in
set_option maxHeartbeats 4000000 in
theorem lineD (C B : Nat) (a : Option Addr) (len cap : Nat) (w : World) (hC : Cur w C a len cap) (hB : B ≤ C) (hcode : CodeOk w B a len) :
    Calls Try.prog 38 #[.pointer (some ⟨C, 0, none⟩)] w fun e w' => ∃ (v : Value) (l : List (Int × Int)), e = .returned (.agg #[v]) ∧ l.length ≤ 4 ∧ (∀ p ∈ l, InI p.2) ∧ OwnW w' w.heap.size v l ∧ Drawn w w' C B a len cap := by
  have hlt := cur_lt hC
  have HDL0 : Hid (DL w ((w.alloc (.cells #[.slice none 0 0] 30)).alloc (.cells #[.slice none 0 0] 30)) C B a len cap (.slice none 0 0) []) :=
    ⟨drawn_alloc (drawn_alloc ⟨hC, hcode, World.grownBy.refl _ _⟩ (by omega) _) (by simp; omega) _, al2_1 w _ _, al2_2 w _ _, ownW_nil _ _, hlt, hB, by simp⟩
  clear hC hcode
  go_enter Try.func38, Try.ntmps38
  go_wp2
  go_loopw [4] (fun i wr => ∃ (k : Nat) (q : Option Addr) (n0 c : Nat) (l : List (Int × Int)), k ≤ 4 ∧ i = .int .i64 k ∧ Hid (l.length ≤ k) ∧ Hid (∀ p ∈ l, InI p.2) ∧ Hid (DL w wr C B a len cap (.slice q n0 c) l)) (fun i _ => 5 - (intOf i).toNat)
  case atStart => exact ⟨0, none, 0, 0, [], by omega, rfl, hid (by simp), hid (by simp), HDL0⟩
  case round =>
    clear HDL0
    obtain ⟨k, q, n0, c, l, hk, rfl, HX, HI, HDL1⟩ := hrel
    go_wp2_with fail
    refine (below28 C B a len cap 4 (by omega) (by omega) _ HDL1.out.1.1 hB HDL1.out.1.2.1).mono ?_
    rintro e w3 ⟨z, rfl, z0, z1, hD⟩
    have HDL : Hid (DL w w3 C B a len cap (.slice q n0 c) l) := HDL1.out.on hD
    clear hD HDL1
    by_cases hkz : (k : Int) < z
    · have hl9 : l.length ≤ 4 := by have := HX.out; omega
      go_wp2_with fail
      refine wp_region_held_drew (S := fun w' => True) (by kernel_rfl) trivial (fun hHeld => ?_)
      refine wpAnyH_take (i := 0) (v := ?_) rfl (by kernel_rfl) (by kernel_rfl) (by kernel_rfl) (fun _ _ _ h => h) (Or.inl ⟨by rfl, ?_⟩) (by assumption) ?_
      rotate_left
      · intro w_ hSw; go_simp <;> with_reducible rfl
      try simp only [Act.put, List.setIfInBounds_toArray, List.set_cons_zero, List.set_cons_succ, List.getElem_toArray, List.getElem_cons_zero]
      refine wpAnyH_take (i := 2) (v := ?_) rfl (by kernel_rfl) (by kernel_rfl) (by kernel_rfl) (fun _ _ _ h => h) (Or.inl ⟨by rfl, ?_⟩) (by assumption) ?_
      rotate_left
      · intro w_ hSw; go_simp <;> with_reducible rfl
      try simp only [Act.put, List.setIfInBounds_toArray, List.set_cons_zero, List.set_cons_succ, List.getElem_toArray, List.getElem_cons_zero, List.getElem_cons_succ]
      refine wpAnyH_take (i := 4) (v := ?_) rfl (by kernel_rfl) (by kernel_rfl) (by kernel_rfl) (fun _ _ _ h => h) (Or.inl ⟨by rfl, ?_⟩) (by assumption) ?_
      rotate_left
      · intro w_ hSw; go_simp <;> with_reducible rfl
      try simp only [Act.put, List.setIfInBounds_toArray, List.set_cons_zero, List.set_cons_succ, List.getElem_toArray, List.getElem_cons_zero, List.getElem_cons_succ]
      refine wpAnyH_named (fun a0 ha0 => ?_)
      have HA0 : Hid (a0 = _) := ha0
      clear ha0
      refine main_go1 (L := (fun xb => #[true, xb, true, false, true, false, false, false, false, false, false])) (St := (fun xb ac W_ => ∃ (vx : Value), ac = (a0.put (some 13) vx) ∧ (xb = true → vx = .slice q n0 c) ∧ Hid (DL w W_ C B a len cap (.slice q n0 c) l))) (K := 7) ?h (by kernel_rfl) (by decide) trivial ⟨a0.tmps.getD 13 undef, (by simp only [put_self]), (fun h => by cases h), hid HDL.out.drew⟩
      case h =>
        refine stage1 (i1 := 1) (c := 3) (fun xb => #[true, xb, true, false, true, false, false, false, false, false, false]) (fun xb => #[true, xb, true, true, true, false, false, false, false, false, false]) (fun xb ac W_ => ∃ (vx : Value), ac = (a0.put (some 13) vx) ∧ (xb = true → vx = .slice q n0 c) ∧ Hid (DL w W_ C B a len cap (.slice q n0 c) l)) (fun xb ac W_ => ∃ (vx : Value) (x : Int), ac = ((a0.put (some 15) (.int .i64 x)).put (some 13) vx) ∧ (xb = true → vx = .slice q n0 c) ∧ Hid (DL w W_ C B a len cap (.slice q n0 c) l)) 6 ?_ ?_ ?_ ?_ ?_ ?_ ?_
        · intro xb i hi
          cases xb
          · have e_ := mem_kernel (rs := [1, 3]) (by kernel_rfl) hi; (first | (simp at e_ ⊢; done) | (simp at e_ ⊢; omega))
          · have e_ := mem_kernel (rs := [3]) (by kernel_rfl) hi; (first | (simp at e_ ⊢; done) | (simp at e_ ⊢; omega))
        · intro xb; cases xb
          · exact ne_kernel (rs := [1, 3]) (by kernel_rfl) (by simp)
          · exact ne_kernel (rs := [3]) (by kernel_rfl) (by simp)
        · kernel_rfl
        · intro xb; cases xb <;> kernel_rfl
        · rintro ac W_ _ ⟨vx, rfl, bx, H1⟩
          have kb := row1_cells H1.out.2.2.1
          refine wpOp_step (i := 1) rfl (fun K hK => ?_)
          have HK : Shut _ := hK
          clear hK
          rw [HA0.out]
          simp only [Act.put, List.setIfInBounds_toArray, List.set_cons_zero, List.set_cons_succ]
          go_simp
          exact HK.out _ _ ⟨trivial, .slice q n0 c, (by rw [HA0.out]; simp only [Act.put, List.setIfInBounds_toArray, List.set_cons_zero, List.set_cons_succ] <;> (first | with_reducible rfl | rfl)), fun _ => rfl, H1⟩
        · rintro xb ac W_ _ ⟨vx, rfl, bx, H1⟩
          refine wpOp_step (i := 3) rfl (fun K hK => ?_)
          have HK : Shut _ := hK
          clear hK
          rw [HA0.out]
          simp only [Act.put, List.setIfInBounds_toArray, List.set_cons_zero, List.set_cons_succ]
          go_simp
          go_at_call 35
          refine (below28 C B a len cap 9 (by omega) (by omega) _ H1.out.1.1 hB H1.out.1.2.1).mono ?_
          rintro e wP ⟨x, rfl, b0, b1, hD⟩
          go_wp2_with fail
          exact HK.out _ _ ⟨trivial, vx, x, (by rw [HA0.out]; simp only [Act.put, List.setIfInBounds_toArray, List.set_cons_zero, List.set_cons_succ] <;> (first | with_reducible rfl | rfl)), bx, hid (H1.out.on hD)⟩
        refine stage1 (i1 := 1) (c := 5) (fun xb => #[true, xb, true, true, true, false, false, false, false, false, false]) (fun xb => #[true, xb, true, true, true, true, false, false, false, false, false]) (fun xb ac W_ => ∃ (vx : Value) (x : Int), ac = ((a0.put (some 15) (.int .i64 x)).put (some 13) vx) ∧ (xb = true → vx = .slice q n0 c) ∧ Hid (DL w W_ C B a len cap (.slice q n0 c) l)) (fun xb ac W_ => ∃ (vx : Value) (x : Int) (y : Int), ac = (((a0.put (some 15) (.int .i64 x)).put (some 17) (.int .i64 y)).put (some 13) vx) ∧ (xb = true → vx = .slice q n0 c) ∧ Hid (DL w W_ C B a len cap (.slice q n0 c) l) ∧ Hid (0 ≤ y ∧ y < 20)) 5 ?_ ?_ ?_ ?_ ?_ ?_ ?_
        · intro xb i hi
          cases xb
          · have e_ := mem_kernel (rs := [1, 5]) (by kernel_rfl) hi; (first | (simp at e_ ⊢; done) | (simp at e_ ⊢; omega))
          · have e_ := mem_kernel (rs := [5]) (by kernel_rfl) hi; (first | (simp at e_ ⊢; done) | (simp at e_ ⊢; omega))
        · intro xb; cases xb
          · exact ne_kernel (rs := [1, 5]) (by kernel_rfl) (by simp)
          · exact ne_kernel (rs := [5]) (by kernel_rfl) (by simp)
        · kernel_rfl
        · intro xb; cases xb <;> kernel_rfl
        · rintro ac W_ _ ⟨vx, x, rfl, bx, H1⟩
          have kb := row1_cells H1.out.2.2.1
          refine wpOp_step (i := 1) rfl (fun K hK => ?_)
          have HK : Shut _ := hK
          clear hK
          rw [HA0.out]
          simp only [Act.put, List.setIfInBounds_toArray, List.set_cons_zero, List.set_cons_succ]
          go_simp
          exact HK.out _ _ ⟨trivial, .slice q n0 c, x, (by rw [HA0.out]; simp only [Act.put, List.setIfInBounds_toArray, List.set_cons_zero, List.set_cons_succ] <;> (first | with_reducible rfl | rfl)), fun _ => rfl, H1⟩
        · rintro xb ac W_ _ ⟨vx, x, rfl, bx, H1⟩
          refine wpOp_step (i := 5) rfl (fun K hK => ?_)
          have HK : Shut _ := hK
          clear hK
          rw [HA0.out]
          simp only [Act.put, List.setIfInBounds_toArray, List.set_cons_zero, List.set_cons_succ]
          go_simp
          go_at_call 35
          refine (below28 C B a len cap 20 (by omega) (by omega) _ H1.out.1.1 hB H1.out.1.2.1).mono ?_
          rintro e wP ⟨y, rfl, b0, b1, hD⟩
          go_wp2_with fail
          exact HK.out _ _ ⟨trivial, vx, x, y, (by rw [HA0.out]; simp only [Act.put, List.setIfInBounds_toArray, List.set_cons_zero, List.set_cons_succ] <;> (first | with_reducible rfl | rfl)), bx, hid (H1.out.on hD), hid ⟨b0, b1⟩⟩
        refine stage1 (i1 := 1) (c := 6) (fun xb => #[true, xb, true, true, true, true, false, false, false, false, false]) (fun xb => #[true, xb, true, true, true, true, true, false, false, false, false]) (fun xb ac W_ => ∃ (vx : Value) (x : Int) (y : Int), ac = (((a0.put (some 15) (.int .i64 x)).put (some 17) (.int .i64 y)).put (some 13) vx) ∧ (xb = true → vx = .slice q n0 c) ∧ Hid (DL w W_ C B a len cap (.slice q n0 c) l) ∧ Hid (0 ≤ y ∧ y < 20)) (fun xb ac W_ => ∃ (vx : Value) (x : Int) (y : Int), ac = ((((a0.put (some 15) (.int .i64 x)).put (some 17) (.int .i64 y)).put (some 18) (.agg #[.int .i64 x, .int .i64 y])).put (some 13) vx) ∧ (xb = true → vx = .slice q n0 c) ∧ Hid (DL w W_ C B a len cap (.slice q n0 c) l) ∧ Hid (0 ≤ y ∧ y < 20)) 4 ?_ ?_ ?_ ?_ ?_ ?_ ?_
        · intro xb i hi
          cases xb
          · have e_ := mem_kernel (rs := [1, 6]) (by kernel_rfl) hi; (first | (simp at e_ ⊢; done) | (simp at e_ ⊢; omega))
          · have e_ := mem_kernel (rs := [6]) (by kernel_rfl) hi; (first | (simp at e_ ⊢; done) | (simp at e_ ⊢; omega))
        · intro xb; cases xb
          · exact ne_kernel (rs := [1, 6]) (by kernel_rfl) (by simp)
          · exact ne_kernel (rs := [6]) (by kernel_rfl) (by simp)
        · kernel_rfl
        · intro xb; cases xb <;> kernel_rfl
        · rintro ac W_ _ ⟨vx, x, y, rfl, bx, H1, HY⟩
          have kb := row1_cells H1.out.2.2.1
          refine wpOp_step (i := 1) rfl (fun K hK => ?_)
          have HK : Shut _ := hK
          clear hK
          rw [HA0.out]
          simp only [Act.put, List.setIfInBounds_toArray, List.set_cons_zero, List.set_cons_succ]
          go_simp
          exact HK.out _ _ ⟨trivial, .slice q n0 c, x, y, (by rw [HA0.out]; simp only [Act.put, List.setIfInBounds_toArray, List.set_cons_zero, List.set_cons_succ] <;> (first | with_reducible rfl | rfl)), fun _ => rfl, H1, HY⟩
        · rintro xb ac W_ _ ⟨vx, x, y, rfl, bx, H1, HY⟩
          refine wpOp_step (i := 6) rfl (fun K hK => ?_)
          have HK : Shut _ := hK
          clear hK
          rw [HA0.out]
          simp only [Act.put, List.setIfInBounds_toArray, List.set_cons_zero, List.set_cons_succ]
          go_simp
          exact HK.out _ _ ⟨trivial, vx, x, y, (by rw [HA0.out]; simp only [Act.put, List.setIfInBounds_toArray, List.set_cons_zero, List.set_cons_succ] <;> (first | with_reducible rfl | rfl)), bx, H1, HY⟩
        refine stage1 (i1 := 1) (c := 7) (fun xb => #[true, xb, true, true, true, true, true, false, false, false, false]) (fun xb => #[true, xb, true, true, true, true, true, true, false, false, false]) (fun xb ac W_ => ∃ (vx : Value) (x : Int) (y : Int), ac = ((((a0.put (some 15) (.int .i64 x)).put (some 17) (.int .i64 y)).put (some 18) (.agg #[.int .i64 x, .int .i64 y])).put (some 13) vx) ∧ (xb = true → vx = .slice q n0 c) ∧ Hid (DL w W_ C B a len cap (.slice q n0 c) l) ∧ Hid (0 ≤ y ∧ y < 20)) (fun xb ac W_ => ∃ (vx : Value) (x : Int) (y : Int) (g1 : Nat), ac = (((((a0.put (some 15) (.int .i64 x)).put (some 17) (.int .i64 y)).put (some 18) (.agg #[.int .i64 x, .int .i64 y])).put (some 19) (.slice (some ⟨g1, 0, none⟩) 1 1)).put (some 13) vx) ∧ (xb = true → vx = .slice q n0 c) ∧ Hid (DL w W_ C B a len cap (.slice q n0 c) l) ∧ Hid (0 ≤ y ∧ y < 20) ∧ Hid (RdR W_ (some ⟨g1, 0, none⟩) [(x, y)])) 3 ?_ ?_ ?_ ?_ ?_ ?_ ?_
        · intro xb i hi
          cases xb
          · have e_ := mem_kernel (rs := [1, 7]) (by kernel_rfl) hi; (first | (simp at e_ ⊢; done) | (simp at e_ ⊢; omega))
          · have e_ := mem_kernel (rs := [7]) (by kernel_rfl) hi; (first | (simp at e_ ⊢; done) | (simp at e_ ⊢; omega))
        · intro xb; cases xb
          · exact ne_kernel (rs := [1, 7]) (by kernel_rfl) (by simp)
          · exact ne_kernel (rs := [7]) (by kernel_rfl) (by simp)
        · kernel_rfl
        · intro xb; cases xb <;> kernel_rfl
        · rintro ac W_ _ ⟨vx, x, y, rfl, bx, H1, HY⟩
          have kb := row1_cells H1.out.2.2.1
          refine wpOp_step (i := 1) rfl (fun K hK => ?_)
          have HK : Shut _ := hK
          clear hK
          rw [HA0.out]
          simp only [Act.put, List.setIfInBounds_toArray, List.set_cons_zero, List.set_cons_succ]
          go_simp
          exact HK.out _ _ ⟨trivial, .slice q n0 c, x, y, (by rw [HA0.out]; simp only [Act.put, List.setIfInBounds_toArray, List.set_cons_zero, List.set_cons_succ] <;> (first | with_reducible rfl | rfl)), fun _ => rfl, H1, HY⟩
        · rintro xb ac W_ _ ⟨vx, x, y, rfl, bx, H1, HY⟩
          refine wpOp_step (i := 7) rfl (fun K hK => ?_)
          have HK : Shut _ := hK
          clear hK
          rw [HA0.out]
          simp only [Act.put, List.setIfInBounds_toArray, List.set_cons_zero, List.set_cons_succ]
          go_simp
          exact HK.out _ _ ⟨trivial, vx, x, y, W_.heap.size, (by rw [HA0.out]; simp only [Act.put, List.setIfInBounds_toArray, List.set_cons_zero, List.set_cons_succ] <;> (first | with_reducible rfl | rfl)), bx, hid (H1.out.al _), HY, hid (RowR.rd (heap_new W_ _))⟩
        refine stage1e (i1 := 1) (fun xb => #[true, xb, true, true, true, true, true, true, false, false, false]) (fun xb ac W_ => ∃ (vx : Value) (x : Int) (y : Int) (g1 : Nat), ac = (((((a0.put (some 15) (.int .i64 x)).put (some 17) (.int .i64 y)).put (some 18) (.agg #[.int .i64 x, .int .i64 y])).put (some 19) (.slice (some ⟨g1, 0, none⟩) 1 1)).put (some 13) vx) ∧ (xb = true → vx = .slice q n0 c) ∧ Hid (DL w W_ C B a len cap (.slice q n0 c) l) ∧ Hid (0 ≤ y ∧ y < 20) ∧ Hid (RdR W_ (some ⟨g1, 0, none⟩) [(x, y)])) 3 ?_ ?_ ?_ ?_ ?_
        · intro i hi; have e_ := mem_kernel (rs := [1]) (by kernel_rfl) hi; simpa using e_
        · exact ne_kernel (rs := [1]) (by kernel_rfl) (by simp)
        · kernel_rfl
        · rintro ac W_ _ ⟨vx, x, y, g1, rfl, bx, H1, HY, H2⟩
          have kb := row1_cells H1.out.2.2.1
          refine wpOp_step (i := 1) rfl (fun K hK => ?_)
          have HK : Shut _ := hK
          clear hK
          rw [HA0.out]
          simp only [Act.put, List.setIfInBounds_toArray, List.set_cons_zero, List.set_cons_succ]
          go_simp
          exact HK.out _ _ ⟨trivial, .slice q n0 c, x, y, g1, (by rw [HA0.out]; simp only [Act.put, List.setIfInBounds_toArray, List.set_cons_zero, List.set_cons_succ] <;> (first | with_reducible rfl | rfl)), fun _ => rfl, H1, HY, H2⟩
        · rintro fu ac W_ hf _ ⟨vx, x, y, g1, rfl, bx, H1, HY, H2⟩
          obtain ⟨f2, rfl⟩ : ∃ f2, fu = f2 + 3 := ⟨fu - 3, by omega⟩
          obtain rfl := bx rfl
          rw [HA0.out]
          simp only [Act.put, List.setIfInBounds_toArray, List.set_cons_zero, List.set_cons_succ]
          refine wpAnyH_ready (rs := [8]) (by kernel_rfl) (by simp) ?_
          refine AllReadyH.cons rfl (fun K hK => ?_) AllReadyH.nil
          have hC_ := H1.out.lt
          refine wpW _ (.tmp 13) (.tmp 19) rfl (w.heap.size + 1 + 1) _ l g1 (x, y) rfl rfl H1.out.2.2.2.1 H2.out (by have := H1.out.2.2.2.2.2.2; omega) (by omega) ?_
          intro v' w9 hown9 hgr9
          obtain ⟨q', c', hv5, _⟩ := OwnW.own hown9
          obtain ⟨n5, hn5⟩ : ∃ k, (l ++ [(x, y)]).length = k := ⟨_, rfl⟩
          rw [hn5] at hv5
          subst hv5
          clear hn5
          have HP : Hid (DL w (w9.setCell ⟨w.heap.size + 1, 0, none⟩ (.slice q' n5 c')) C B a len cap (.slice q' n5 c') (l ++ [(x, y)]) ∧ w9.heap[w.heap.size + 1]? = _) := H1.out.app hown9 hgr9 (by simp; omega)
          have kz := row1_cells HP.out.2
          refine hK.out _ _ trivial (fun hHeld2 => ?_)
          clear hK K hown9 hgr9 H1 H2 bx
          try simp only [Act.put, List.setIfInBounds_toArray, List.set_cons_zero, List.set_cons_succ]
          refine wpAnyH_take (i := 9) (v := ?_) rfl (by kernel_rfl) (by kernel_rfl) (by kernel_rfl) (fun _ _ _ h => h) (Or.inl ⟨by rfl, ?_⟩) (by assumption) ?_
          rotate_left
          · intro w_ hSw; go_simp <;> with_reducible rfl
          try simp only [Act.put, List.setIfInBounds_toArray, List.set_cons_zero, List.set_cons_succ, List.getElem_toArray, List.getElem_cons_zero, List.getElem_cons_succ]
          refine wpAnyH_ready (rs := [10]) (by kernel_rfl) (by simp) ?_
          refine AllReadyH.cons rfl (fun K hK => ?_) AllReadyH.nil
          go_simp
          refine hK.out _ _ trivial (fun hHeld3 => ?_)
          clear hHeld2 hHeld3 hK K kz
          refine wpAnyH_done (by kernel_rfl) ?_ _
          (try go_wp2_with fail)
          go_wp2
          go_roundw
          case measure => simp [intOf]; omega
          case rel => exact ⟨k + 1, q', n5, c', l ++ [(x, y)], by omega, by go_num, hid (by have := HX.out; simp; omega), hid (fun p hp => by rcases List.mem_append.1 hp with h | h; exact HI.out p h; simp at h; subst h; have := HY.out; exact ⟨by simp; omega, by simp; omega⟩), hid HP.out.1⟩
    · have kk := row1_cells HDL.out.2.2.1
      have kz := row1_cells HDL.out.2.1
      have HF : Hid (_ ∧ _) := HDL.out.done
      clear HDL
      go_wp2
      refine bodyPost_ret (v := .agg #[.slice q n0 c]) (by simp [results, Try.results38, go_sem, kz]) rfl ⟨_, l, rfl, by have := HX.out; omega, HI.out, HF.out.2, HF.out.1⟩

set_option maxRecDepth 100000 in
set_option maxHeartbeats 4000000 in
theorem sendD (a : Option Addr) (len cap : Nat) (w : World) (hcode : CodeOk w w.heap.size a len) :
    Calls Try.prog 21 #[.slice a len cap] w fun e w' => ∃ (k f t m fr : Int) (q : Option Addr) (c : Nat) (l : List (Int × Int)) (x y : Int), e = .returned (.tuple #[.agg #[.int .i64 k, .int .i64 f, .int .i64 t, .int .i64 m, .int .i64 fr], .agg #[.slice q l.length c], .int .i64 x, .int .i64 y]) ∧ l.length ≤ 4 ∧ (∀ p ∈ l, InI p.2) ∧ OwnM w' w.heap.size q l ∧ (q = none → l.length = 0 ∧ c = 0) ∧ l.length ≤ c ∧ InI y ∧ Below w.heap.size w w' := by
  have HCo : Hid (CodeOk ((w.alloc (.cells #[.int .i64 0, .int .i64 0, .int .i64 0, .int .i64 0, .int .i64 0] 33)).alloc (.cells #[.slice none 0 0] 30)) w.heap.size a len) := code_below hcode (al2_b w _ _)
  have HZ0 : Hid (((w.alloc (.cells #[.int .i64 0, .int .i64 0, .int .i64 0, .int .i64 0, .int .i64 0] 33)).alloc (.cells #[.slice none 0 0] 30)).heap[w.heap.size]? = some (.cells #[.int .i64 0, .int .i64 0, .int .i64 0, .int .i64 0, .int .i64 0] 33)) := al2_1 w _ _
  have HY0 : Hid (((w.alloc (.cells #[.int .i64 0, .int .i64 0, .int .i64 0, .int .i64 0, .int .i64 0] 33)).alloc (.cells #[.slice none 0 0] 30)).heap[w.heap.size + 1]? = some (.cells #[.slice none 0 0] 30)) := al2_2 w _ _
  have HB0 : Hid (Below w.heap.size w ((w.alloc (.cells #[.int .i64 0, .int .i64 0, .int .i64 0, .int .i64 0, .int .i64 0] 33)).alloc (.cells #[.slice none 0 0] 30))) := al2_b w _ _
  clear hcode
  go_enter Try.func21, Try.ntmps21
  go_wp2_with fail
  refine (new23 w.heap.size a len cap _ HCo.out (by simp; omega)).mono ?_
  rintro e w1 ⟨C, rfl, hC, hcur, hcode1, hb1⟩
  have HD1 : Hid (Drawn w1 w1 C w.heap.size a len cap) := ⟨hcur, hcode1, World.grownBy.refl _ _⟩
  have hCs : w.heap.size + 1 < C := by simp at hC; omega
  have hBC : w.heap.size ≤ C := by omega
  have HZ1 : Hid (_ = _) := row_on HZ0.out hb1
  have HY1 : Hid (_ = _) := row_on HY0.out hb1
  have HB1 : Hid (Below w.heap.size w w1) := bel_on (Nat.le_refl _) HB0.out hb1
  clear hC hcur hcode1 hb1 HZ0 HY0 HB0 HCo
  go_wp2_with fail
  refine (anyD C w.heap.size a len cap _ HD1.out.1 hBC HD1.out.2.1).mono ?_
  rintro e w2 ⟨k, f, t, m, fr, rfl, hD2⟩
  have HD2 : Hid (Drawn w1 w2 C w.heap.size a len cap) := hD2
  clear hD2 HD1
  go_wp2_with fail
  refine (lineD C w.heap.size a len cap _ HD2.out.1 hBC HD2.out.2.1).mono ?_
  rintro e w3 ⟨v, l, rfl, hl4, hli, hown, hD3⟩
  have HD3 : Hid (Drawn w1 w3 C w.heap.size a len cap) := drawn_trans HD2.out hD3
  have hC2 : C < w2.heap.size := cur_lt HD2.out.1
  have HO3 : Hid (OwnW w3 w2.heap.size v l) := hown
  have HLI : Hid (∀ p ∈ l, InI p.2) := hli
  clear hown hD3 HD2 hli
  go_wp2_with fail
  refine (below28 C w.heap.size a len cap 99 (by omega) (by omega) _ HD3.out.1 hBC HD3.out.2.1).mono ?_
  rintro e w4 ⟨x, rfl, x0, x1, hD4⟩
  have HD4 : Hid (Drawn w1 w4 C w.heap.size a len cap) := drawn_trans HD3.out hD4
  have HO4 : Hid (OwnW w4 w2.heap.size v l) := own_gr HO3.out hD4.2.2 hC2
  clear hD4 HD3 HO3
  go_wp2_with fail
  refine (below28 C w.heap.size a len cap 30 (by omega) (by omega) _ HD4.out.1 hBC HD4.out.2.1).mono ?_
  rintro e w5 ⟨y, rfl, y0, y1, hD5⟩
  have HD5 : Hid (Drawn w1 w5 C w.heap.size a len cap) := drawn_trans HD4.out hD5
  have HO5 : Hid (OwnW w5 w2.heap.size v l) := own_gr HO4.out hD5.2.2 hC2
  clear hD5 HD4 HO4
  have HZ5 : Hid (_ = _) := row_drawn HZ1.out HD5.out.2.2 (by omega)
  have HY5 : Hid (_ = _) := row_drawn HY1.out HD5.out.2.2 (by omega)
  have HB5 : Hid (Below w.heap.size w w5) := HB1.out.grown HD5.out.2.2 HB1.out.size (fun g hg => by cases hg; exact hBC)
  obtain ⟨q, c, hv, ho, hq, hc⟩ := HO5.out.full
  have hge : w.heap.size ≤ w2.heap.size := by omega
  subst hv
  obtain ⟨n, hn⟩ : ∃ n, l.length = n := ⟨_, rfl⟩
  rw [hn] at hq hc hl4 ⊢
  have HNL : Hid (l.length = n) := hn
  have HQQ : Hid (q = none → n = 0 ∧ c = 0) := hq
  have HOM : Hid (OwnM w5 w.heap.size q l) := ho.mono hge
  clear hn hq HO5 HD5 HZ1 HY1 HB1 ho
  have kz := box5_cells HZ5.out
  have ky := row1_cells HY5.out
  go_wp2
  refine bodyPost_ret (v := .tuple #[.agg #[.int .i64 k, .int .i64 f, .int .i64 t, .int .i64 m, .int .i64 fr], .agg #[.slice q n c], .int .i64 x, .int .i64 y]) (by simp [results, Try.results21, go_sem, kz, ky]) rfl ?_
  clear kz ky
  have o1 := OwnM.put (i := 0) (x := .int .i64 k) (HOM.out) (HZ5.out) (by decide)
  have r1 := set1_row (i := 0) (x := .int .i64 k) (HZ5.out)
  have y1_ := set_other (k := w.heap.size) (i := 0) (x := .int .i64 k) (HY5.out) (by omega)
  have o2 := OwnM.put (i := 1) (x := .int .i64 f) (o1) (r1) (by decide)
  have r2 := set1_row (i := 1) (x := .int .i64 f) (r1)
  have y2_ := set_other (k := w.heap.size) (i := 1) (x := .int .i64 f) (y1_) (by omega)
  have o3 := OwnM.put (i := 2) (x := .int .i64 t) (o2) (r2) (by decide)
  have r3 := set1_row (i := 2) (x := .int .i64 t) (r2)
  have y3_ := set_other (k := w.heap.size) (i := 2) (x := .int .i64 t) (y2_) (by omega)
  have o4 := OwnM.put (i := 3) (x := .int .i64 m) (o3) (r3) (by decide)
  have r4 := set1_row (i := 3) (x := .int .i64 m) (r3)
  have y4_ := set_other (k := w.heap.size) (i := 3) (x := .int .i64 m) (y3_) (by omega)
  have o5 := OwnM.put (i := 4) (x := .int .i64 fr) (o4) (r4) (by decide)
  have r5 := set1_row (i := 4) (x := .int .i64 fr) (r4)
  have y5_ := set_other (k := w.heap.size) (i := 4) (x := .int .i64 fr) (y4_) (by omega)
  have o6 := OwnM.put (i := 0) (x := .slice q n c) o5 y5_ (by decide)
  exact ⟨k, f, t, m, fr, q, c, l, x, y, by rw [HNL.out], by rw [HNL.out]; exact hl4, HLI.out, o6, by rw [HNL.out]; exact HQQ.out, by rw [HNL.out]; exact hc, ⟨by omega, by omega⟩, (((((HB5.out.setCell (p := ⟨w.heap.size, 0, none⟩) (Nat.le_refl _) (.int .i64 k)).setCell (p := ⟨w.heap.size, 1, none⟩) (Nat.le_refl _) (.int .i64 f)).setCell (p := ⟨w.heap.size, 2, none⟩) (Nat.le_refl _) (.int .i64 t)).setCell (p := ⟨w.heap.size, 3, none⟩) (Nat.le_refl _) (.int .i64 m)).setCell (p := ⟨w.heap.size, 4, none⟩) (Nat.le_refl _) (.int .i64 fr)).setCell (by simp) _⟩

end Go.Proofs.Ytacpoandikheeaa
