/-
  The draws of a machine: one number, a machine.
-/
import Derived.Test.YtbacmkibilhkgaaDrawM
import Derived.Test.YtbacmkibilhkgaaDrawO
import Derived.Test.YtbacmkibilhkgaaStage1
namespace Go.Proofs.Ytbacmkibilhkgaa.D
open Go.RowKit Go.PlainAid
set_option linter.unusedVariables false
theorem laid_ints (w : World) (l : List Int) (j : Nat) (hj : j < l.length) : (w.alloc (.cells (l.map (Value.int .i64)).toArray 3)).cell? ⟨w.heap.size, j, none⟩ = some (.int .i64 l[j]) := by
  rw [cell_of_row _ w.heap.size j _ 3 (0, 0) (heap_alloc_new w _)]
  simp [hj]
/-- a number that is an int -/
def Fits (x : Int) : Prop := -9223372036854775808 ≤ x ∧ x ≤ 9223372036854775807

set_option maxRecDepth 100000 in
set_option maxHeartbeats 1000000 in
theorem intD (C B : Nat) (a : Option Addr) (len cap : Nat) (w : World) (hC : Cur w C a len cap) (hB : B ≤ C) (hcode : CodeOk w B a len) :
    Calls Try.prog 67 #[.pointer (some ⟨C, 0, none⟩)] w fun e w' => ∃ x : Int, e = .returned (.int .i64 x) ∧ Fits x ∧ Drawn w w' C B a len cap := by
  have hlt := cur_lt hC
  have HD0 : Hid (Drawn w w C B a len cap) := ⟨hC, hcode, World.grownBy.refl _ _⟩
  clear hC hcode
  go_enter Try.func67, Try.ntmps67
  go_wp2_with fail
  refine (below28 C B a len cap 5 (by omega) (by omega) _ HD0.out.1 hB HD0.out.2.1).mono ?_
  rintro e w1 ⟨x, rfl, x0, x1, hD⟩
  have HD1 : Hid (Drawn w w1 C B a len cap) := hD
  have s1 := hD.2.2.size
  clear hD HD0
  by_cases h0 : (x == 0) = true
  · have HA : Hid (∀ o, Drawn w (w1.alloc o) C B a len cap) := fun o => drawn_alloc HD1.out (by omega) o
    have hlay := laid_ints w1 [0, 1, -1, 1000000000000, -1000000000000, 1000000000001, 9223372036854775807, -9223372036854775808]
    have HL : Hid _ := hlay
    have s2 := cur_lt HD1.out.1
    clear hlay
    go_wp2_with fail
    refine (pick26' C B a len cap [0, 1, -1, 1000000000000, -1000000000000, 1000000000001, 9223372036854775807, -9223372036854775808] 8 _ _ rfl (by omega) (by omega) _ (HA.out _).1 hB (HA.out _).2.1 (by omega) (by simp) HL.out).mono ?_
    rintro e w2 ⟨y, rfl, hy, hD⟩
    have hy2 : Fits y := by
      simp only [List.mem_cons, List.not_mem_nil, or_false] at hy
      unfold Fits
      omega
    have HD2 : Hid (Drawn w w2 C B a len cap) := drawn_trans (HA.out _) hD
    clear hD hy HA HL HD1
    go_wp2
    go_ret
    exact ⟨_, rfl, hy2, HD2.out⟩
  · have h0' : (x == 0) = false := by simpa using h0
    clear h0
    by_cases h1 : (x == 1) = true
    · go_wp2_with fail
      refine (below28 C B a len cap 2000001 (by omega) (by omega) _ HD1.out.1 hB HD1.out.2.1).mono ?_
      rintro e w2 ⟨y, rfl, y0, y1, hD⟩
      have HD2 : Hid (Drawn w w2 C B a len cap) := drawn_trans HD1.out hD
      clear hD HD1
      go_wp2
      go_ret
      exact ⟨_, rfl, (show Fits _ from by unfold Fits; omega), HD2.out⟩
    · have h1' : (x == 1) = false := by simpa using h1
      clear h1
      go_wp2_with fail
      refine (below28 C B a len cap 20001 (by omega) (by omega) _ HD1.out.1 hB HD1.out.2.1).mono ?_
      rintro e w2 ⟨y, rfl, y0, y1, hD⟩
      have HD2 : Hid (Drawn w w2 C B a len cap) := drawn_trans HD1.out hD
      clear hD HD1
      go_wp2
      go_ret
      exact ⟨_, rfl, (show Fits _ from by unfold Fits; omega), HD2.out⟩


theorem run_appV (W : World) (ty : TypeId) (B n : Nat) (v : Value) (l : List Int) (g2 : Nat) (l' : List Int) (hown : W.ownsRow B 3 1 v n (intsV l)) (hl : l'.length = 1) (hr : Rd W (some ⟨g2, 0, none⟩) l') (hn : n + 1 ≤ 3000000) (hB : B ≤ W.heap.size) :
    ∃ v' w', (Builtin.append_ #[22, 22] ty #[v, .slice (some ⟨g2, 0, none⟩) 1 1]).run Try.prog W = .ok v' w' ∧ w'.ownsRow B 3 1 v' (n + 1) (intsV (l ++ l')) ∧ W.grownBy w' v.ownBlock := by
  obtain ⟨i0, hi, hz0, hz1, hz2⟩ := info_parts info3
  obtain ⟨v', w', hrun, h2, h3, h4, h5⟩ := run_append_own_at (P := Try.prog) W B 22 ty 3 i0 (.int .i64 0) 1 8 Try.underlying22 hi hz0 hz1 hz2 rfl (by decide) _ n _ hown ⟨g2, 0, none⟩ 1 1 (intsV l') (by rw [intsV_len, hl]) (fun j u hu => by
    obtain ⟨hj, rfl⟩ := intsV_at hu
    obtain ⟨b, off, ha, hc⟩ := hr (by omega)
    cases ha
    rw [add_at]
    exact hc j hj) intsV_one (by unfold maxLen; omega) (by omega) hB
  refine ⟨v', w', hrun, ?_, h3⟩
  rw [show intsV (l ++ l') = intsV l ++ intsV l' by simp [intsV]]
  exact h2
theorem wpV {o : Oper} {a : Act} {K : Act → World → Prop} {Q : Exit → Act → World → Prop} (W : World) (s x : Operand)
    (ho : o.op = .call { callee := .builtin .append, args := #[s, x], argTypes := #[22, 22] }) (B : Nat) (v : Value) (l : List Int) (g2 : Nat) (l' : List Int)
    (hs : a.eval s = v) (hx : a.eval x = .slice (some ⟨g2, 0, none⟩) 1 1) (hown : W.ownsRow B 3 1 v l.length (intsV l)) (hr : Rd W (some ⟨g2, 0, none⟩) l') (hn : l.length + l'.length ≤ 3000000) (hB : B ≤ W.heap.size) (hl : l'.length = 1 := by rfl)
    (h : ∀ v' w', w'.ownsRow B 3 1 v' (l ++ l').length (intsV (l ++ l')) → W.grownBy w' v.ownBlock → K (a.put o.dst v') w') : o.wp Try.prog a W K Q := by
  obtain ⟨v', w', hrun, h2, h3⟩ := run_appV W o.type B l.length v l g2 l' hown hl hr (by omega) hB
  unfold Oper.wp execOp
  simp only [ho, resolve, invoke, builtin, Sem.run_bind, Sem.run_pure, Result.andThen_ok, List.map_toArray, List.map_cons, List.map_nil, hs, hx, hrun]
  exact h v' w' (by rw [List.length_append, hl]; exact h2) h3
/-- a machine that is being drawn: its box, its stack -/
def DC (w W : World) (C B : Nat) (a : Option Addr) (len cap : Nat) (kx : Nat) (pc : Int) (v : Value) (l : List Int) : Prop :=
  Drawn w W C B a len cap ∧ W.heap[w.heap.size]? = some (.cells #[.int .i64 0, .slice none 0 0] 27) ∧ W.heap[kx]? = some (.cells #[.int .i64 pc, v] 27) ∧ W.ownsRow (w.heap.size + 1) 3 1 v l.length (intsV l) ∧ C < w.heap.size ∧ B ≤ C ∧ w.heap.size < kx ∧ l.length ≤ 100
section
variable {w W W' : World} {C B : Nat} {a : Option Addr} {len cap kx : Nat} {pc : Int} {v : Value} {l : List Int}
theorem DC.lt (h : DC w W C B a len cap kx pc v l) : C < w.heap.size ∧ w.heap.size < kx ∧ kx < W.heap.size := ⟨h.2.2.2.2.1, h.2.2.2.2.2.2.1, row_lt h.2.2.1⟩
theorem DC.drew (h : DC w W C B a len cap kx pc v l) : DC w W.drew C B a len cap kx pc v l := ⟨drawn_drew h.1, h.2⟩
theorem DC.al (h : DC w W C B a len cap kx pc v l) (o : Obj) : DC w (W.alloc o) C B a len cap kx pc v l :=
  ⟨drawn_alloc h.1 (by have := h.lt; have := h.2.2.2.2.2.1; omega) o, row_al h.2.1, row_al h.2.2.1, h.2.2.2.1.alloc _, h.2.2.2.2⟩
theorem DC.on (h : DC w W C B a len cap kx pc v l) (hD : Drawn W W' C B a len cap) : DC w W' C B a len cap kx pc v l :=
  ⟨drawn_trans h.1 hD, row_drawn h.2.1 hD.2.2 (by have := h.lt; omega), row_drawn h.2.2.1 hD.2.2 (by have := h.lt; omega), own_gr h.2.2.2.1 hD.2.2 (by have := h.lt; omega), h.2.2.2.2⟩
theorem ownV_ne {B' n p : Nat} {xs : List Value} {cs : Array Value} {t : TypeId} (h : W.ownsRow B' 3 1 v n xs) (hp : W.heap[p]? = some (.cells cs t)) (ht : t ≠ 3) : ∀ g, v.ownBlock = some g → g ≠ p := by
  intro g hg
  rcases h.2 with ⟨rfl, _⟩ | ⟨g', cap', cur, rfl, h1, h2, _⟩
  · simp [Value.ownBlock] at hg
  · simp [Value.ownBlock] at hg
    subst hg
    exact row_ne h2 hp (fun e => by cases e; exact ht rfl)
theorem DC.app {v' : Value} {y : Int} (h : DC w W C B a len cap kx pc v l) (hown : W'.ownsRow (w.heap.size + 1) 3 1 v' (l ++ [y]).length (intsV (l ++ [y]))) (hg : W.grownBy W' v.ownBlock) (hy : (l ++ [y]).length ≤ 100 := by first | (simp; omega) | omega) :
    DC w (W'.setCell ⟨kx, 1, none⟩ v') C B a len cap kx pc v' (l ++ [y]) ∧ W'.heap[kx]? = some (.cells #[.int .i64 pc, v] 27) := by
  have hge := own_ge h.2.2.2.1
  have hlt := h.lt
  have hBC := h.2.2.2.2.2.1
  have e0 : W'.heap[w.heap.size]? = _ := grown_row hg h.2.1 (fun e => by have := hge _ e; omega)
  have e1 : W'.heap[kx]? = _ := grown_row hg h.2.2.1 (fun e => ownV_ne h.2.2.2.1 h.2.2.1 (by decide) _ e rfl)
  refine ⟨⟨drawn_put (drawn_grown h.1 hg (fun g hg' => by have := hge g hg'; omega) hlt.1 (by omega)) 1 v' (by omega) hlt.1 hBC, set_other e0 (by omega), set1_row (i := 1) e1, own_setOther hown (ownV_ne hown e1 (by decide)), h.2.2.2.2.1, hBC, h.2.2.2.2.2.2.1, hy⟩, e1⟩
theorem DC.toPc (h : DC w W C B a len cap kx pc v l) (z : Int) : DC w (W.setCell ⟨kx, 0, none⟩ (.int .i64 z)) C B a len cap kx z v l := by
  have hlt := h.lt
  exact ⟨drawn_put h.1 0 _ (by omega) hlt.1 h.2.2.2.2.2.1, set_other h.2.1 (by omega), set1_row (i := 0) h.2.2.1, own_setOther h.2.2.2.1 (ownV_ne h.2.2.2.1 h.2.2.1 (by decide)), h.2.2.2.2⟩
/-- what is handed back -/
theorem DC.done (h : DC w W C B a len cap kx pc v l) : Drawn w ((W.setCell ⟨w.heap.size, 0, none⟩ (.int .i64 pc)).setCell ⟨w.heap.size, 1, none⟩ v) C B a len cap ∧ ((W.setCell ⟨w.heap.size, 0, none⟩ (.int .i64 pc)).setCell ⟨w.heap.size, 1, none⟩ v).ownsRow w.heap.size 3 1 v l.length (intsV l) := by
  have hlt := h.lt
  have hge := own_ge h.2.2.2.1
  refine ⟨drawn_put (drawn_put h.1 0 _ (Nat.le_refl _) hlt.1 h.2.2.2.2.2.1) 1 _ (Nat.le_refl _) hlt.1 h.2.2.2.2.2.1, ?_⟩
  exact own_setOther (own_setOther (own_mono h.2.2.2.1 (by omega)) (fun g hg => by have := hge g hg; omega)) (fun g hg => by have := hge g hg; omega)
end
set_option maxRecDepth 100000 in
set_option maxHeartbeats 4000000 in
theorem cpuD (C B : Nat) (a : Option Addr) (len cap : Nat) (size : Int) (h0 : 0 ≤ size) (h1 : size ≤ 1000000) (w : World) (hC : Cur w C a len cap) (hB : B ≤ C) (hcode : CodeOk w B a len) :
    Calls Try.prog 64 #[.pointer (some ⟨C, 0, none⟩), .int .i64 size] w fun e w' => ∃ (pc : Int) (v : Value) (l : List Int), e = .returned (.agg #[.int .i64 pc, v]) ∧ l.length ≤ 9 ∧ w'.ownsRow w.heap.size 3 1 v l.length (intsV l) ∧ Drawn w w' C B a len cap := by
  have hlt := cur_lt hC
  have HD0 : Hid (Drawn w (w.alloc (.cells #[.int .i64 0, .slice none 0 0] 27)) C B a len cap) := drawn_alloc ⟨hC, hcode, World.grownBy.refl _ _⟩ (by omega) _
  have HZ0 : Hid ((w.alloc (.cells #[.int .i64 0, .slice none 0 0] 27)).heap[w.heap.size]? = some (.cells #[.int .i64 0, .slice none 0 0] 27)) := heap_new w _
  clear hC hcode
  go_enter Try.func64, Try.ntmps64
  go_wp2_with fail
  refine (below28 C B a len cap (size + 1) (by omega) (by omega) _ HD0.out.1 hB HD0.out.2.1).mono ?_
  rintro e w1 ⟨pc, rfl, p0, p1, hD⟩
  have hs := hD.2.2.size
  have hs1 : w.heap.size + 1 ≤ w1.heap.size := by simp at hs; omega
  have HDC0 : Hid (DC w (w1.alloc (.cells #[.int .i64 pc, .slice none 0 0] 27)) C B a len cap w1.heap.size pc (.slice none 0 0) []) :=
    ⟨drawn_alloc (drawn_trans HD0.out hD) (by omega) _, row_al (row_drawn HZ0.out hD.2.2 (by omega)), heap_new w1 _, World.ownsRow_nil _ _ _ _, hlt, hB, by omega, by simp⟩
  clear hD HD0 HZ0 hs
  obtain ⟨kx, hkx⟩ : ∃ k, w1.heap.size = k := ⟨_, rfl⟩
  go_wp2_with fail
  rw [hkx] at HDC0
  try rw [hkx]
  go_loopw [6] (fun i wr => ∃ (k : Nat) (q : Option Addr) (n0 c : Nat) (l : List Int), k ≤ 8 ∧ i = .int .i64 k ∧ Hid (l.length = k) ∧ Hid (DC w wr C B a len cap kx pc (.slice q n0 c) l)) (fun i _ => 9 - (intOf i).toNat)
  case atStart => exact ⟨0, none, 0, 0, [], by omega, rfl, hid rfl, HDC0⟩
  case round =>
    clear HDC0
    obtain ⟨k, q, n0, c, l, hk, rfl, HX, HDC⟩ := hrel
    go_wp2_with fail
    refine (below28 C B a len cap 9 (by omega) (by omega) _ HDC.out.1.1 hB HDC.out.1.2.1).mono ?_
    rintro e w3 ⟨z, rfl, z0, z1, hD⟩
    have HDC3 : Hid (DC w w3 C B a len cap kx pc (.slice q n0 c) l) := HDC.out.on hD
    clear hD HDC
    by_cases hkz : (k : Int) < z
    · go_wp2_with fail
      have HDC := HDC3
      have hl9 : l.length ≤ 8 := by have := HX.out; omega
      clear HDC3
      refine wp_region_held_drew (S := fun w' => True) (by kernel_rfl) trivial (fun hHeld => ?_)
      refine wpAnyH_take (i := 0) (v := ?_) rfl (by kernel_rfl) (by kernel_rfl) (by kernel_rfl) (fun _ _ _ h => h) (Or.inl ⟨by rfl, ?_⟩) (by assumption) ?_
      rotate_left
      · intro w_ hSw; go_simp <;> with_reducible rfl
      try simp only [Act.put, List.setIfInBounds_toArray, List.set_cons_zero, List.set_cons_succ, List.getElem_toArray, List.getElem_cons_zero]
      refine wpAnyH_take (i := 2) (v := ?_) rfl (by kernel_rfl) (by kernel_rfl) (by kernel_rfl) (fun _ _ _ h => h) (Or.inl ⟨by rfl, ?_⟩) (by assumption) ?_
      rotate_left
      · intro w_ hSw; go_simp <;> with_reducible rfl
      try simp only [Act.put, List.setIfInBounds_toArray, List.set_cons_zero, List.set_cons_succ, List.getElem_toArray, List.getElem_cons_zero, List.getElem_cons_succ]
      refine wpAnyH_named (fun a0 ha0 => ?_)
      have HA0 : Hid (a0 = _) := ha0
      clear ha0
      refine main_go1 (L := (fun xb => #[true, xb, true, false, false, false, false, false, false])) (St := (fun xb ac W_ => ∃ (vx : Value), ac = (a0.put (some 19) vx) ∧ (xb = true → vx = .slice q n0 c) ∧ Hid (DC w W_ C B a len cap kx pc (.slice q n0 c) l))) (K := 6) ?h (by kernel_rfl) (by decide) trivial ⟨a0.tmps.getD 19 undef, (by simp only [put_self]), (fun h => by cases h), hid HDC.out.drew⟩
      case h =>
        refine stage1 (i1 := 1) (c := 3) (fun xb => #[true, xb, true, false, false, false, false, false, false]) (fun xb => #[true, xb, true, true, false, false, false, false, false]) (fun xb ac W_ => ∃ (vx : Value), ac = (a0.put (some 19) vx) ∧ (xb = true → vx = .slice q n0 c) ∧ Hid (DC w W_ C B a len cap kx pc (.slice q n0 c) l)) (fun xb ac W_ => ∃ (vx : Value) (g6 : Nat), ac = ((a0.put (some 21) (.slice (some ⟨g6, 0, none⟩) 6 6)).put (some 19) vx) ∧ (xb = true → vx = .slice q n0 c) ∧ Hid (DC w W_ C B a len cap kx pc (.slice q n0 c) l) ∧ Hid (g6 ≠ C ∧ g6 < W_.heap.size ∧ ∀ j (hj : j < ([0, 1, 2, 3, 5, 65535] : List Int).length), W_.cell? ⟨g6, j, none⟩ = some (.int .i64 ([0, 1, 2, 3, 5, 65535] : List Int)[j]))) 5 ?_ ?_ ?_ ?_ ?_ ?_ ?_
        · intro xb i hi
          cases xb
          · have e_ := mem_kernel (rs := [1, 3]) (by kernel_rfl) hi; (first | (simp at e_ ⊢; done) | (simp at e_ ⊢; omega))
          · have e_ := mem_kernel (rs := [3]) (by kernel_rfl) hi; (first | (simp at e_ ⊢; done) | (simp at e_ ⊢; omega))
        · intro xb; cases xb
          · exact ne_kernel (rs := [1, 3]) (by kernel_rfl) (by simp)
          · exact ne_kernel (rs := [3]) (by kernel_rfl) (by simp)
        · kernel_rfl
        · intro xb; cases xb <;> kernel_rfl
        · rintro ac W_ _ ⟨vx, rfl, bx, H1⟩
          have kb := row2_cells H1.out.2.2.1
          refine wpOp_step (i := 1) rfl (fun K hK => ?_)
          have HK : Shut _ := hK
          clear hK
          rw [HA0.out]
          simp only [Act.put, List.setIfInBounds_toArray, List.set_cons_zero, List.set_cons_succ]
          go_simp
          exact HK.out _ _ ⟨trivial, .slice q n0 c, (by rw [HA0.out]; simp only [Act.put, List.setIfInBounds_toArray, List.set_cons_zero, List.set_cons_succ] <;> (first | with_reducible rfl | rfl)), fun _ => rfl, H1⟩
        · rintro xb ac W_ _ ⟨vx, rfl, bx, H1⟩
          have hl_ := laid_ints W_ [0, 1, 2, 3, 5, 65535]
          have hC_ := H1.out.lt
          have HL_ : Hid _ := hl_
          clear hl_
          refine wpOp_step (i := 3) rfl (fun K hK => ?_)
          have HK : Shut _ := hK
          clear hK
          rw [HA0.out]
          simp only [Act.put, List.setIfInBounds_toArray, List.set_cons_zero, List.set_cons_succ]
          go_simp
          exact HK.out _ _ ⟨trivial, vx, W_.heap.size, (by rw [HA0.out]; simp only [Act.put, List.setIfInBounds_toArray, List.set_cons_zero, List.set_cons_succ] <;> (first | with_reducible rfl | rfl)), bx, hid (H1.out.al _), hid ⟨by omega, by simp, HL_.out⟩⟩
        refine stage1 (i1 := 1) (c := 4) (fun xb => #[true, xb, true, true, false, false, false, false, false]) (fun xb => #[true, xb, true, true, true, false, false, false, false]) (fun xb ac W_ => ∃ (vx : Value) (g6 : Nat), ac = ((a0.put (some 21) (.slice (some ⟨g6, 0, none⟩) 6 6)).put (some 19) vx) ∧ (xb = true → vx = .slice q n0 c) ∧ Hid (DC w W_ C B a len cap kx pc (.slice q n0 c) l) ∧ Hid (g6 ≠ C ∧ g6 < W_.heap.size ∧ ∀ j (hj : j < ([0, 1, 2, 3, 5, 65535] : List Int).length), W_.cell? ⟨g6, j, none⟩ = some (.int .i64 ([0, 1, 2, 3, 5, 65535] : List Int)[j]))) (fun xb ac W_ => ∃ (vx : Value) (g6 : Nat) (y : Int), ac = (((a0.put (some 21) (.slice (some ⟨g6, 0, none⟩) 6 6)).put (some 22) (.int .i64 y)).put (some 19) vx) ∧ (xb = true → vx = .slice q n0 c) ∧ Hid (DC w W_ C B a len cap kx pc (.slice q n0 c) l)) 4 ?_ ?_ ?_ ?_ ?_ ?_ ?_
        · intro xb i hi
          cases xb
          · have e_ := mem_kernel (rs := [1, 4]) (by kernel_rfl) hi; (first | (simp at e_ ⊢; done) | (simp at e_ ⊢; omega))
          · have e_ := mem_kernel (rs := [4]) (by kernel_rfl) hi; (first | (simp at e_ ⊢; done) | (simp at e_ ⊢; omega))
        · intro xb; cases xb
          · exact ne_kernel (rs := [1, 4]) (by kernel_rfl) (by simp)
          · exact ne_kernel (rs := [4]) (by kernel_rfl) (by simp)
        · kernel_rfl
        · intro xb; cases xb <;> kernel_rfl
        · rintro ac W_ _ ⟨vx, g6, rfl, bx, H1, H2⟩
          have kb := row2_cells H1.out.2.2.1
          refine wpOp_step (i := 1) rfl (fun K hK => ?_)
          have HK : Shut _ := hK
          clear hK
          rw [HA0.out]
          simp only [Act.put, List.setIfInBounds_toArray, List.set_cons_zero, List.set_cons_succ]
          go_simp
          exact HK.out _ _ ⟨trivial, .slice q n0 c, g6, (by rw [HA0.out]; simp only [Act.put, List.setIfInBounds_toArray, List.set_cons_zero, List.set_cons_succ] <;> (first | with_reducible rfl | rfl)), fun _ => rfl, H1, H2⟩
        · rintro xb ac W_ _ ⟨vx, g6, rfl, bx, H1, H2⟩
          refine wpOp_step (i := 4) rfl (fun K hK => ?_)
          have HK : Shut _ := hK
          clear hK
          rw [HA0.out]
          simp only [Act.put, List.setIfInBounds_toArray, List.set_cons_zero, List.set_cons_succ]
          go_simp
          go_at_call 77
          refine (pick26' C B a len cap [0, 1, 2, 3, 5, 65535] 6 g6 6 rfl (by omega) (by omega) _ H1.out.1.1 H1.out.2.2.2.2.2.1 H1.out.1.2.1 H2.out.1 H2.out.2.1 H2.out.2.2).mono ?_
          rintro e wP ⟨y, rfl, _, hD⟩
          go_wp2_with fail
          exact HK.out _ _ ⟨trivial, vx, g6, y, (by rw [HA0.out]; simp only [Act.put, List.setIfInBounds_toArray, List.set_cons_zero, List.set_cons_succ] <;> (first | with_reducible rfl | rfl)), bx, hid (H1.out.on hD)⟩
        refine stage1 (i1 := 1) (c := 5) (fun xb => #[true, xb, true, true, true, false, false, false, false]) (fun xb => #[true, xb, true, true, true, true, false, false, false]) (fun xb ac W_ => ∃ (vx : Value) (g6 : Nat) (y : Int), ac = (((a0.put (some 21) (.slice (some ⟨g6, 0, none⟩) 6 6)).put (some 22) (.int .i64 y)).put (some 19) vx) ∧ (xb = true → vx = .slice q n0 c) ∧ Hid (DC w W_ C B a len cap kx pc (.slice q n0 c) l)) (fun xb ac W_ => ∃ (vx : Value) (g6 : Nat) (y : Int) (g1 : Nat), ac = ((((a0.put (some 21) (.slice (some ⟨g6, 0, none⟩) 6 6)).put (some 22) (.int .i64 y)).put (some 23) (.slice (some ⟨g1, 0, none⟩) 1 1)).put (some 19) vx) ∧ (xb = true → vx = .slice q n0 c) ∧ Hid (DC w W_ C B a len cap kx pc (.slice q n0 c) l) ∧ Hid (Rd W_ (some ⟨g1, 0, none⟩) [y])) 3 ?_ ?_ ?_ ?_ ?_ ?_ ?_
        · intro xb i hi
          cases xb
          · have e_ := mem_kernel (rs := [1, 5]) (by kernel_rfl) hi; (first | (simp at e_ ⊢; done) | (simp at e_ ⊢; omega))
          · have e_ := mem_kernel (rs := [5]) (by kernel_rfl) hi; (first | (simp at e_ ⊢; done) | (simp at e_ ⊢; omega))
        · intro xb; cases xb
          · exact ne_kernel (rs := [1, 5]) (by kernel_rfl) (by simp)
          · exact ne_kernel (rs := [5]) (by kernel_rfl) (by simp)
        · kernel_rfl
        · intro xb; cases xb <;> kernel_rfl
        · rintro ac W_ _ ⟨vx, g6, y, rfl, bx, H1⟩
          have kb := row2_cells H1.out.2.2.1
          refine wpOp_step (i := 1) rfl (fun K hK => ?_)
          have HK : Shut _ := hK
          clear hK
          rw [HA0.out]
          simp only [Act.put, List.setIfInBounds_toArray, List.set_cons_zero, List.set_cons_succ]
          go_simp
          exact HK.out _ _ ⟨trivial, .slice q n0 c, g6, y, (by rw [HA0.out]; simp only [Act.put, List.setIfInBounds_toArray, List.set_cons_zero, List.set_cons_succ] <;> (first | with_reducible rfl | rfl)), fun _ => rfl, H1⟩
        · rintro xb ac W_ _ ⟨vx, g6, y, rfl, bx, H1⟩
          refine wpOp_step (i := 5) rfl (fun K hK => ?_)
          have HK : Shut _ := hK
          clear hK
          rw [HA0.out]
          simp only [Act.put, List.setIfInBounds_toArray, List.set_cons_zero, List.set_cons_succ]
          go_simp
          exact HK.out _ _ ⟨trivial, vx, g6, y, W_.heap.size, (by rw [HA0.out]; simp only [Act.put, List.setIfInBounds_toArray, List.set_cons_zero, List.set_cons_succ] <;> (first | with_reducible rfl | rfl)), bx, hid (H1.out.al _), hid (rd_one _ _)⟩
        refine stage1e (i1 := 1) (fun xb => #[true, xb, true, true, true, true, false, false, false]) (fun xb ac W_ => ∃ (vx : Value) (g6 : Nat) (y : Int) (g1 : Nat), ac = ((((a0.put (some 21) (.slice (some ⟨g6, 0, none⟩) 6 6)).put (some 22) (.int .i64 y)).put (some 23) (.slice (some ⟨g1, 0, none⟩) 1 1)).put (some 19) vx) ∧ (xb = true → vx = .slice q n0 c) ∧ Hid (DC w W_ C B a len cap kx pc (.slice q n0 c) l) ∧ Hid (Rd W_ (some ⟨g1, 0, none⟩) [y])) 3 ?_ ?_ ?_ ?_ ?_
        · intro i hi; have e_ := mem_kernel (rs := [1]) (by kernel_rfl) hi; simpa using e_
        · exact ne_kernel (rs := [1]) (by kernel_rfl) (by simp)
        · kernel_rfl
        · rintro ac W_ _ ⟨vx, g6, y, g1, rfl, bx, H1, H2⟩
          have kb := row2_cells H1.out.2.2.1
          refine wpOp_step (i := 1) rfl (fun K hK => ?_)
          have HK : Shut _ := hK
          clear hK
          rw [HA0.out]
          simp only [Act.put, List.setIfInBounds_toArray, List.set_cons_zero, List.set_cons_succ]
          go_simp
          exact HK.out _ _ ⟨trivial, .slice q n0 c, g6, y, g1, (by rw [HA0.out]; simp only [Act.put, List.setIfInBounds_toArray, List.set_cons_zero, List.set_cons_succ] <;> (first | with_reducible rfl | rfl)), fun _ => rfl, H1, H2⟩
        · rintro fu ac W_ hf _ ⟨vx, g6, y, g1, rfl, bx, H1, H2⟩
          obtain ⟨f2, rfl⟩ : ∃ f2, fu = f2 + 3 := ⟨fu - 3, by omega⟩
          obtain rfl := bx rfl
          rw [HA0.out]
          simp only [Act.put, List.setIfInBounds_toArray, List.set_cons_zero, List.set_cons_succ]
          refine wpAnyH_ready (rs := [6]) (by kernel_rfl) (by simp) ?_
          refine AllReadyH.cons rfl (fun K hK => ?_) AllReadyH.nil
          have hC_ := H1.out.lt
          refine wpV _ (.tmp 19) (.tmp 23) rfl (w.heap.size + 1) _ l g1 [y] rfl rfl H1.out.2.2.2.1 H2.out (by simp; omega) (by omega) (by rfl) ?_
          intro v' w9 hown9 hgr9
          obtain ⟨n5, hn5⟩ : ∃ k, (l ++ [y]).length = k := ⟨_, rfl⟩
          obtain ⟨q', c', hv5⟩ := own_shape hown9
          rw [hn5] at hv5
          subst hv5
          clear hn5
          have HP : Hid (DC w (w9.setCell ⟨kx, 1, none⟩ (.slice q' n5 c')) C B a len cap kx pc (.slice q' n5 c') (l ++ [y]) ∧ w9.heap[kx]? = _) := H1.out.app hown9 hgr9
          have kz := row2_cells HP.out.2
          refine hK.out _ _ trivial (fun hHeld2 => ?_)
          clear hK K hown9 hgr9 H1 H2 bx
          try simp only [Act.put, List.setIfInBounds_toArray, List.set_cons_zero, List.set_cons_succ]
          refine wpAnyH_take (i := 7) (v := ?_) rfl (by kernel_rfl) (by kernel_rfl) (by kernel_rfl) (fun _ _ _ h => h) (Or.inl ⟨by rfl, ?_⟩) (by assumption) ?_
          rotate_left
          · intro w_ hSw; go_simp <;> with_reducible rfl
          try simp only [Act.put, List.setIfInBounds_toArray, List.set_cons_zero, List.set_cons_succ, List.getElem_toArray, List.getElem_cons_zero, List.getElem_cons_succ]
          refine wpAnyH_ready (rs := [8]) (by kernel_rfl) (by simp) ?_
          refine AllReadyH.cons rfl (fun K hK => ?_) AllReadyH.nil
          go_simp
          refine hK.out _ _ trivial (fun hHeld3 => ?_)
          clear hHeld2 hHeld3 hK K kz
          refine wpAnyH_done (by kernel_rfl) ?_ _
          go_wp2
          go_roundw
          case rel => exact ⟨k + 1, q', n5, c', l ++ [y], by omega, by go_num, hid (by have := HX.out; simp; omega), hid HP.out.1⟩
          case measure => simp [intOf]; omega
    · have hk2 : ¬ ((k : Int) < z) := hkz
      go_wp2_with fail
      refine (below28 C B a len cap 20 (by omega) (by omega) _ HDC3.out.1.1 hB HDC3.out.1.2.1).mono ?_
      rintro e w4 ⟨qq, rfl, q0, q1, hD⟩
      have HDC : Hid (DC w w4 C B a len cap kx pc (.slice q n0 c) l) := HDC3.out.on hD
      have hl9 : l.length ≤ 8 := by have := HX.out; omega
      clear hD HDC3
      by_cases hq0 : (qq == 0) = true
      · have hC_ := HDC.out.lt
        have HL_ : Hid _ := laid_ints w4 [-1, 60, 61]
        have HDa : Hid (∀ o, DC w (w4.alloc o) C B a len cap kx pc (.slice q n0 c) l) := fun o => HDC.out.al o
        go_wp2_with fail
        refine (pick26' C B a len cap [-1, 60, 61] 3 _ _ rfl (by omega) (by omega) _ (HDa.out _).1.1 hB (HDa.out _).1.2.1 (by omega) (by simp) HL_.out).mono ?_
        rintro e w5 ⟨y, rfl, _, hD⟩
        have h5 := (HDa.out _).on hD
        have k5 := row2_cells h5.2.2.1
        have HDC5 : Hid (DC w (w5.setCell ⟨kx, 0, none⟩ (.int .i64 y)) C B a len cap kx y (.slice q n0 c) l) := h5.toPc y
        clear hD h5 HDa HDC HL_ hC_
        have k6 := row2_cells HDC5.out.2.2.1
        have kz := row2_cells HDC5.out.2.1
        have HF : Hid (_ ∧ _) := HDC5.out.done
        clear HDC5
        go_wp2
        refine bodyPost_ret (v := .agg #[.int .i64 y, .slice q n0 c]) (by simp [results, Try.results64, go_sem, kz]) rfl ⟨y, _, l, rfl, by omega, HF.out.2, HF.out.1⟩
      · have hq0' : (qq == 0) = false := by simpa using hq0
        clear hq0
        by_cases hq1 : (qq == 1) = true
        · go_wp2_with fail
          refine wp_region_held_drew (S := fun w' => True) (by kernel_rfl) trivial (fun hHeld => ?_)
          refine wpAnyH_take (i := 0) (v := ?_) rfl (by kernel_rfl) (by kernel_rfl) (by kernel_rfl) (fun _ _ _ h => h) (Or.inl ⟨by rfl, ?_⟩) (by assumption) ?_
          rotate_left
          · intro w_ hSw; go_simp <;> with_reducible rfl
          try simp only [Act.put, List.setIfInBounds_toArray, List.set_cons_zero, List.set_cons_succ, List.getElem_toArray, List.getElem_cons_zero]
          refine wpAnyH_take (i := 2) (v := ?_) rfl (by kernel_rfl) (by kernel_rfl) (by kernel_rfl) (fun _ _ _ h => h) (Or.inl ⟨by rfl, ?_⟩) (by assumption) ?_
          rotate_left
          · intro w_ hSw; go_simp <;> with_reducible rfl
          try simp only [Act.put, List.setIfInBounds_toArray, List.set_cons_zero, List.set_cons_succ, List.getElem_toArray, List.getElem_cons_zero, List.getElem_cons_succ]
          refine wpAnyH_named (fun a0 ha0 => ?_)
          have HA0 : Hid (a0 = _) := ha0
          clear ha0
          refine main_go1 (L := (fun xb => #[true, xb, true, false, false, false, false, false, false])) (St := (fun xb ac W_ => ∃ (vx : Value), ac = (a0.put (some 37) vx) ∧ (xb = true → vx = .slice q n0 c) ∧ Hid (DC w W_ C B a len cap kx pc (.slice q n0 c) l))) (K := 6) ?h (by kernel_rfl) (by decide) trivial ⟨a0.tmps.getD 37 undef, (by simp only [put_self]), (fun h => by cases h), hid HDC.out.drew⟩
          case h =>
            refine stage1 (i1 := 1) (c := 3) (fun xb => #[true, xb, true, false, false, false, false, false, false]) (fun xb => #[true, xb, true, true, false, false, false, false, false]) (fun xb ac W_ => ∃ (vx : Value), ac = (a0.put (some 37) vx) ∧ (xb = true → vx = .slice q n0 c) ∧ Hid (DC w W_ C B a len cap kx pc (.slice q n0 c) l)) (fun xb ac W_ => ∃ (vx : Value) (g6 : Nat), ac = ((a0.put (some 39) (.slice (some ⟨g6, 0, none⟩) 3 3)).put (some 37) vx) ∧ (xb = true → vx = .slice q n0 c) ∧ Hid (DC w W_ C B a len cap kx pc (.slice q n0 c) l) ∧ Hid (g6 ≠ C ∧ g6 < W_.heap.size ∧ ∀ j (hj : j < ([-1, 65535, 65536] : List Int).length), W_.cell? ⟨g6, j, none⟩ = some (.int .i64 ([-1, 65535, 65536] : List Int)[j]))) 5 ?_ ?_ ?_ ?_ ?_ ?_ ?_
            · intro xb i hi
              cases xb
              · have e_ := mem_kernel (rs := [1, 3]) (by kernel_rfl) hi; (first | (simp at e_ ⊢; done) | (simp at e_ ⊢; omega))
              · have e_ := mem_kernel (rs := [3]) (by kernel_rfl) hi; (first | (simp at e_ ⊢; done) | (simp at e_ ⊢; omega))
            · intro xb; cases xb
              · exact ne_kernel (rs := [1, 3]) (by kernel_rfl) (by simp)
              · exact ne_kernel (rs := [3]) (by kernel_rfl) (by simp)
            · kernel_rfl
            · intro xb; cases xb <;> kernel_rfl
            · rintro ac W_ _ ⟨vx, rfl, bx, H1⟩
              have kb := row2_cells H1.out.2.2.1
              refine wpOp_step (i := 1) rfl (fun K hK => ?_)
              have HK : Shut _ := hK
              clear hK
              rw [HA0.out]
              simp only [Act.put, List.setIfInBounds_toArray, List.set_cons_zero, List.set_cons_succ]
              go_simp
              exact HK.out _ _ ⟨trivial, .slice q n0 c, (by rw [HA0.out]; simp only [Act.put, List.setIfInBounds_toArray, List.set_cons_zero, List.set_cons_succ] <;> (first | with_reducible rfl | rfl)), fun _ => rfl, H1⟩
            · rintro xb ac W_ _ ⟨vx, rfl, bx, H1⟩
              have hl_ := laid_ints W_ [-1, 65535, 65536]
              have hC_ := H1.out.lt
              have HL_ : Hid _ := hl_
              clear hl_
              refine wpOp_step (i := 3) rfl (fun K hK => ?_)
              have HK : Shut _ := hK
              clear hK
              rw [HA0.out]
              simp only [Act.put, List.setIfInBounds_toArray, List.set_cons_zero, List.set_cons_succ]
              go_simp
              exact HK.out _ _ ⟨trivial, vx, W_.heap.size, (by rw [HA0.out]; simp only [Act.put, List.setIfInBounds_toArray, List.set_cons_zero, List.set_cons_succ] <;> (first | with_reducible rfl | rfl)), bx, hid (H1.out.al _), hid ⟨by omega, by simp, HL_.out⟩⟩
            refine stage1 (i1 := 1) (c := 4) (fun xb => #[true, xb, true, true, false, false, false, false, false]) (fun xb => #[true, xb, true, true, true, false, false, false, false]) (fun xb ac W_ => ∃ (vx : Value) (g6 : Nat), ac = ((a0.put (some 39) (.slice (some ⟨g6, 0, none⟩) 3 3)).put (some 37) vx) ∧ (xb = true → vx = .slice q n0 c) ∧ Hid (DC w W_ C B a len cap kx pc (.slice q n0 c) l) ∧ Hid (g6 ≠ C ∧ g6 < W_.heap.size ∧ ∀ j (hj : j < ([-1, 65535, 65536] : List Int).length), W_.cell? ⟨g6, j, none⟩ = some (.int .i64 ([-1, 65535, 65536] : List Int)[j]))) (fun xb ac W_ => ∃ (vx : Value) (g6 : Nat) (y : Int), ac = (((a0.put (some 39) (.slice (some ⟨g6, 0, none⟩) 3 3)).put (some 40) (.int .i64 y)).put (some 37) vx) ∧ (xb = true → vx = .slice q n0 c) ∧ Hid (DC w W_ C B a len cap kx pc (.slice q n0 c) l)) 4 ?_ ?_ ?_ ?_ ?_ ?_ ?_
            · intro xb i hi
              cases xb
              · have e_ := mem_kernel (rs := [1, 4]) (by kernel_rfl) hi; (first | (simp at e_ ⊢; done) | (simp at e_ ⊢; omega))
              · have e_ := mem_kernel (rs := [4]) (by kernel_rfl) hi; (first | (simp at e_ ⊢; done) | (simp at e_ ⊢; omega))
            · intro xb; cases xb
              · exact ne_kernel (rs := [1, 4]) (by kernel_rfl) (by simp)
              · exact ne_kernel (rs := [4]) (by kernel_rfl) (by simp)
            · kernel_rfl
            · intro xb; cases xb <;> kernel_rfl
            · rintro ac W_ _ ⟨vx, g6, rfl, bx, H1, H2⟩
              have kb := row2_cells H1.out.2.2.1
              refine wpOp_step (i := 1) rfl (fun K hK => ?_)
              have HK : Shut _ := hK
              clear hK
              rw [HA0.out]
              simp only [Act.put, List.setIfInBounds_toArray, List.set_cons_zero, List.set_cons_succ]
              go_simp
              exact HK.out _ _ ⟨trivial, .slice q n0 c, g6, (by rw [HA0.out]; simp only [Act.put, List.setIfInBounds_toArray, List.set_cons_zero, List.set_cons_succ] <;> (first | with_reducible rfl | rfl)), fun _ => rfl, H1, H2⟩
            · rintro xb ac W_ _ ⟨vx, g6, rfl, bx, H1, H2⟩
              refine wpOp_step (i := 4) rfl (fun K hK => ?_)
              have HK : Shut _ := hK
              clear hK
              rw [HA0.out]
              simp only [Act.put, List.setIfInBounds_toArray, List.set_cons_zero, List.set_cons_succ]
              go_simp
              go_at_call 77
              refine (pick26' C B a len cap [-1, 65535, 65536] 3 g6 3 rfl (by omega) (by omega) _ H1.out.1.1 H1.out.2.2.2.2.2.1 H1.out.1.2.1 H2.out.1 H2.out.2.1 H2.out.2.2).mono ?_
              rintro e wP ⟨y, rfl, _, hD⟩
              go_wp2_with fail
              exact HK.out _ _ ⟨trivial, vx, g6, y, (by rw [HA0.out]; simp only [Act.put, List.setIfInBounds_toArray, List.set_cons_zero, List.set_cons_succ] <;> (first | with_reducible rfl | rfl)), bx, hid (H1.out.on hD)⟩
            refine stage1 (i1 := 1) (c := 5) (fun xb => #[true, xb, true, true, true, false, false, false, false]) (fun xb => #[true, xb, true, true, true, true, false, false, false]) (fun xb ac W_ => ∃ (vx : Value) (g6 : Nat) (y : Int), ac = (((a0.put (some 39) (.slice (some ⟨g6, 0, none⟩) 3 3)).put (some 40) (.int .i64 y)).put (some 37) vx) ∧ (xb = true → vx = .slice q n0 c) ∧ Hid (DC w W_ C B a len cap kx pc (.slice q n0 c) l)) (fun xb ac W_ => ∃ (vx : Value) (g6 : Nat) (y : Int) (g1 : Nat), ac = ((((a0.put (some 39) (.slice (some ⟨g6, 0, none⟩) 3 3)).put (some 40) (.int .i64 y)).put (some 41) (.slice (some ⟨g1, 0, none⟩) 1 1)).put (some 37) vx) ∧ (xb = true → vx = .slice q n0 c) ∧ Hid (DC w W_ C B a len cap kx pc (.slice q n0 c) l) ∧ Hid (Rd W_ (some ⟨g1, 0, none⟩) [y])) 3 ?_ ?_ ?_ ?_ ?_ ?_ ?_
            · intro xb i hi
              cases xb
              · have e_ := mem_kernel (rs := [1, 5]) (by kernel_rfl) hi; (first | (simp at e_ ⊢; done) | (simp at e_ ⊢; omega))
              · have e_ := mem_kernel (rs := [5]) (by kernel_rfl) hi; (first | (simp at e_ ⊢; done) | (simp at e_ ⊢; omega))
            · intro xb; cases xb
              · exact ne_kernel (rs := [1, 5]) (by kernel_rfl) (by simp)
              · exact ne_kernel (rs := [5]) (by kernel_rfl) (by simp)
            · kernel_rfl
            · intro xb; cases xb <;> kernel_rfl
            · rintro ac W_ _ ⟨vx, g6, y, rfl, bx, H1⟩
              have kb := row2_cells H1.out.2.2.1
              refine wpOp_step (i := 1) rfl (fun K hK => ?_)
              have HK : Shut _ := hK
              clear hK
              rw [HA0.out]
              simp only [Act.put, List.setIfInBounds_toArray, List.set_cons_zero, List.set_cons_succ]
              go_simp
              exact HK.out _ _ ⟨trivial, .slice q n0 c, g6, y, (by rw [HA0.out]; simp only [Act.put, List.setIfInBounds_toArray, List.set_cons_zero, List.set_cons_succ] <;> (first | with_reducible rfl | rfl)), fun _ => rfl, H1⟩
            · rintro xb ac W_ _ ⟨vx, g6, y, rfl, bx, H1⟩
              refine wpOp_step (i := 5) rfl (fun K hK => ?_)
              have HK : Shut _ := hK
              clear hK
              rw [HA0.out]
              simp only [Act.put, List.setIfInBounds_toArray, List.set_cons_zero, List.set_cons_succ]
              go_simp
              exact HK.out _ _ ⟨trivial, vx, g6, y, W_.heap.size, (by rw [HA0.out]; simp only [Act.put, List.setIfInBounds_toArray, List.set_cons_zero, List.set_cons_succ] <;> (first | with_reducible rfl | rfl)), bx, hid (H1.out.al _), hid (rd_one _ _)⟩
            refine stage1e (i1 := 1) (fun xb => #[true, xb, true, true, true, true, false, false, false]) (fun xb ac W_ => ∃ (vx : Value) (g6 : Nat) (y : Int) (g1 : Nat), ac = ((((a0.put (some 39) (.slice (some ⟨g6, 0, none⟩) 3 3)).put (some 40) (.int .i64 y)).put (some 41) (.slice (some ⟨g1, 0, none⟩) 1 1)).put (some 37) vx) ∧ (xb = true → vx = .slice q n0 c) ∧ Hid (DC w W_ C B a len cap kx pc (.slice q n0 c) l) ∧ Hid (Rd W_ (some ⟨g1, 0, none⟩) [y])) 3 ?_ ?_ ?_ ?_ ?_
            · intro i hi; have e_ := mem_kernel (rs := [1]) (by kernel_rfl) hi; simpa using e_
            · exact ne_kernel (rs := [1]) (by kernel_rfl) (by simp)
            · kernel_rfl
            · rintro ac W_ _ ⟨vx, g6, y, g1, rfl, bx, H1, H2⟩
              have kb := row2_cells H1.out.2.2.1
              refine wpOp_step (i := 1) rfl (fun K hK => ?_)
              have HK : Shut _ := hK
              clear hK
              rw [HA0.out]
              simp only [Act.put, List.setIfInBounds_toArray, List.set_cons_zero, List.set_cons_succ]
              go_simp
              exact HK.out _ _ ⟨trivial, .slice q n0 c, g6, y, g1, (by rw [HA0.out]; simp only [Act.put, List.setIfInBounds_toArray, List.set_cons_zero, List.set_cons_succ] <;> (first | with_reducible rfl | rfl)), fun _ => rfl, H1, H2⟩
            · rintro fu ac W_ hf _ ⟨vx, g6, y, g1, rfl, bx, H1, H2⟩
              obtain ⟨f2, rfl⟩ : ∃ f2, fu = f2 + 3 := ⟨fu - 3, by omega⟩
              obtain rfl := bx rfl
              rw [HA0.out]
              simp only [Act.put, List.setIfInBounds_toArray, List.set_cons_zero, List.set_cons_succ]
              refine wpAnyH_ready (rs := [6]) (by kernel_rfl) (by simp) ?_
              refine AllReadyH.cons rfl (fun K hK => ?_) AllReadyH.nil
              have hC_ := H1.out.lt
              refine wpV _ (.tmp 37) (.tmp 41) rfl (w.heap.size + 1) _ l g1 [y] rfl rfl H1.out.2.2.2.1 H2.out (by simp; omega) (by omega) (by rfl) ?_
              intro v' w9 hown9 hgr9
              obtain ⟨n5, hn5⟩ : ∃ k, (l ++ [y]).length = k := ⟨_, rfl⟩
              obtain ⟨q', c', hv5⟩ := own_shape hown9
              rw [hn5] at hv5
              subst hv5
              clear hn5
              have HP : Hid (DC w (w9.setCell ⟨kx, 1, none⟩ (.slice q' n5 c')) C B a len cap kx pc (.slice q' n5 c') (l ++ [y]) ∧ w9.heap[kx]? = _) := H1.out.app hown9 hgr9
              have kz := row2_cells HP.out.2
              refine hK.out _ _ trivial (fun hHeld2 => ?_)
              clear hK K hown9 hgr9 H1 H2 bx
              try simp only [Act.put, List.setIfInBounds_toArray, List.set_cons_zero, List.set_cons_succ]
              refine wpAnyH_take (i := 7) (v := ?_) rfl (by kernel_rfl) (by kernel_rfl) (by kernel_rfl) (fun _ _ _ h => h) (Or.inl ⟨by rfl, ?_⟩) (by assumption) ?_
              rotate_left
              · intro w_ hSw; go_simp <;> with_reducible rfl
              try simp only [Act.put, List.setIfInBounds_toArray, List.set_cons_zero, List.set_cons_succ, List.getElem_toArray, List.getElem_cons_zero, List.getElem_cons_succ]
              refine wpAnyH_ready (rs := [8]) (by kernel_rfl) (by simp) ?_
              refine AllReadyH.cons rfl (fun K hK => ?_) AllReadyH.nil
              go_simp
              refine hK.out _ _ trivial (fun hHeld3 => ?_)
              clear hHeld2 hHeld3 hK K kz
              refine wpAnyH_done (by kernel_rfl) ?_ _
              have k6 := row2_cells HP.out.1.2.2.1
              have kz := row2_cells HP.out.1.2.1
              have HF : Hid (_ ∧ _) := HP.out.1.done
              clear HP
              go_wp2
              refine bodyPost_ret (v := .agg #[.int .i64 pc, .slice q' n5 c']) (by simp [results, Try.results64, go_sem, kz]) rfl ⟨pc, _, l ++ [y], rfl, by simp; omega, HF.out.2, HF.out.1⟩
        · have hq1' : (qq == 1) = false := by simpa using hq1
          clear hq1
          have k6 := row2_cells HDC.out.2.2.1
          have kz := row2_cells HDC.out.2.1
          have HF : Hid (_ ∧ _) := HDC.out.done
          clear HDC
          go_wp2
          refine bodyPost_ret (v := .agg #[.int .i64 pc, .slice q n0 c]) (by simp [results, Try.results64, go_sem, kz]) rfl ⟨pc, _, l, rfl, by omega, HF.out.2, HF.out.1⟩
end Go.Proofs.Ytbacmkibilhkgaa.D

namespace Go.Proofs.Ytbacmkibilhkgaa.D
open Go.RowKit Go.PlainAid
set_option linter.unusedVariables false
theorem rd_grown {W W' : World} {g C : Nat} {l : List Int} (h : Rd W (some ⟨g, 0, none⟩) l) (hg : W.grownBy W' (some C)) (hne : g ≠ C) : Rd W' (some ⟨g, 0, none⟩) l := fun h0 => by
  obtain ⟨b, off, ha, hc⟩ := h h0
  cases ha
  refine ⟨g, 0, rfl, fun j hj => ?_⟩
  have h1 := hc j hj
  exact (hg.cell_far ⟨g, 0 + j, none⟩ (World.block_lt_of_cell? W _ h1) (by simp; omega)).trans h1
theorem rd_set {W : World} {g k i : Nat} {l : List Int} {v : Value} (h : Rd W (some ⟨g, 0, none⟩) l) (hk : g ≠ k) : Rd (W.setCell ⟨k, i, none⟩ v) (some ⟨g, 0, none⟩) l := fun h0 => by
  obtain ⟨b, off, ha, hc⟩ := h h0
  cases ha
  exact ⟨g, 0, rfl, fun j hj => cell_set (hc j hj) hk⟩
theorem own_room {W : World} {B n c m : Nat} {q : Option Addr} {l : List Int} (h : W.ownsRow B 3 1 (.slice q n c) m (intsV l)) : n = m ∧ (q = none → n = 0 ∧ c = 0) ∧ n ≤ c := by
  rcases h.2 with ⟨hv, e⟩ | ⟨g', cap', cur, hv, h1, h2, h3, h4, h5, h6⟩
  · cases hv; exact ⟨by omega, fun _ => ⟨rfl, rfl⟩, Nat.le_refl _⟩
  · cases hv; exact ⟨rfl, (fun hq => by cases hq), by omega⟩
/-- the three boxes of what is handed back -/
theorem zeros3 (w : World) : ((((w.alloc (.cells #[.int .i64 0, .slice none 0 0] 27)).alloc (.cells #[.slice none 0 0] 38)).alloc (.cells #[.int .i64 0, .int .i64 0] 46)).heap[w.heap.size]? = some (.cells #[.int .i64 0, .slice none 0 0] 27)) ∧ ((((w.alloc (.cells #[.int .i64 0, .slice none 0 0] 27)).alloc (.cells #[.slice none 0 0] 38)).alloc (.cells #[.int .i64 0, .int .i64 0] 46)).heap[w.heap.size + 1]? = some (.cells #[.slice none 0 0] 38)) ∧ ((((w.alloc (.cells #[.int .i64 0, .slice none 0 0] 27)).alloc (.cells #[.slice none 0 0] 38)).alloc (.cells #[.int .i64 0, .int .i64 0] 46)).heap[w.heap.size + 1 + 1]? = some (.cells #[.int .i64 0, .int .i64 0] 46)) :=
  ⟨al3_1 w _ _ _, al3_2 w _ _ _, al3_3 w _ _ _⟩
def Z3 (w W : World) : Prop := W.heap[w.heap.size]? = some (.cells #[.int .i64 0, .slice none 0 0] 27) ∧ W.heap[w.heap.size + 1]? = some (.cells #[.slice none 0 0] 38) ∧ W.heap[w.heap.size + 1 + 1]? = some (.cells #[.int .i64 0, .int .i64 0] 46)
theorem Z3.on {w W W' : World} (h : Z3 w W) (hb : Below W.heap.size W W') : Z3 w W' := ⟨row_on h.1 hb, row_on h.2.1 hb, row_on h.2.2 hb⟩
theorem Z3.gr {w W W' : World} {C : Nat} (h : Z3 w W) (hg : W.grownBy W' (some C)) (hC : w.heap.size + 3 ≤ C) : Z3 w W' := ⟨row_drawn h.1 hg (by omega), row_drawn h.2.1 hg (by omega), row_drawn h.2.2 hg (by omega)⟩
set_option maxRecDepth 100000 in
set_option maxHeartbeats 2000000 in
theorem drawStep (a : Option Addr) (len cap : Nat) (w : World) (hcode : CodeOk w w.heap.size a len) :
    Calls Try.prog 34 #[.slice a len cap] w fun e w' => ∃ (pc : Int) (qs : Option Addr) (n cp : Nat) (st : List Int) (qc : Option Addr) (nc cc : Nat) (rl : List (Int × Int)) (g m : Nat) (ce : List Int) (f s t : Int),
      e = .returned (.tuple #[.agg #[.int .i64 pc, .slice qs n cp], .slice qc nc cc, .agg #[.slice (some ⟨g, 0, none⟩) m 64], .agg #[.int .i64 f, .int .i64 s], .int .i64 t]) ∧ st.length = n ∧ n ≤ 9 ∧ (qs = none → n = 0 ∧ cp = 0) ∧ n ≤ cp ∧ Rd w' qs st ∧ rl.length = nc ∧ nc ≤ 61 ∧ I.RdR w' qc rl ∧ ce.length = m ∧ m ≤ 64 ∧ Rd w' (some ⟨g, 0, none⟩) ce ∧ Below w.heap.size w w' := by
  have HZ0 : Hid (Z3 w (((w.alloc (.cells #[.int .i64 0, .slice none 0 0] 27)).alloc (.cells #[.slice none 0 0] 38)).alloc (.cells #[.int .i64 0, .int .i64 0] 46))) := zeros3 w
  have HW0 : Hid (Below w.heap.size w (((w.alloc (.cells #[.int .i64 0, .slice none 0 0] 27)).alloc (.cells #[.slice none 0 0] 38)).alloc (.cells #[.int .i64 0, .int .i64 0] 46))) := al3_b w _ _ _
  have HCO : Hid (CodeOk (((w.alloc (.cells #[.int .i64 0, .slice none 0 0] 27)).alloc (.cells #[.slice none 0 0] 38)).alloc (.cells #[.int .i64 0, .int .i64 0] 46)) w.heap.size a len) := code_below hcode HW0.out
  clear hcode
  go_enter Try.func34, Try.ntmps34
  go_wp2_with fail
  refine (new23 w.heap.size a len cap _ HCO.out (by simp; omega)).mono ?_
  rintro e w1 ⟨C, rfl, hC0, hcur1, hcode1, hb1⟩
  have hC : w.heap.size + 3 ≤ C := by simp at hC0; omega
  have hBC : w.heap.size ≤ C := by omega
  have HZ1 : Hid (Z3 w w1) := HZ0.out.on hb1
  have HW1 : Hid (Below w.heap.size w w1) := HW0.out.trans (hb1.mono HW0.out.size)
  have HC1 : Hid (Cur w1 C a len cap ∧ CodeOk w1 w.heap.size a len) := ⟨hcur1, hcode1⟩
  have l1 := cur_lt hcur1
  clear hC0 hcur1 hcode1 hb1 HZ0 HW0 HCO
  go_wp2_with fail
  refine (I.anyD C w.heap.size a len cap _ HC1.out.1 hBC HC1.out.2).mono ?_
  rintro e w2 ⟨vc, rl, rfl, hrl, hownc, hD2⟩
  obtain ⟨qc, cc, rfl, _⟩ := hownc.rd
  obtain ⟨nc, hnc⟩ : ∃ k, rl.length = k := ⟨_, rfl⟩
  rw [hnc]
  have HNC : Hid (rl.length = nc) := hnc
  have hnc61 : nc ≤ 61 := by omega
  have HOC2 : Hid (I.OwnI w2 w1.heap.size (.slice qc nc cc) rl) := by rw [← hnc]; exact hownc
  have HZ2 : Hid (Z3 w w2) := HZ1.out.gr hD2.2.2 hC
  have HD2 : Hid (Drawn w1 w2 C w.heap.size a len cap) := hD2
  have s2 := hD2.2.2.size
  clear hownc hD2 HC1 HZ1 hrl hnc
  go_wp2_with fail
  refine (cpuD C w.heap.size a len cap (nc : Int) (by omega) (by omega) _ HD2.out.1 hBC HD2.out.2.1).mono ?_
  rintro e w3 ⟨pc, v, st, rfl, hst, hown, hD3⟩
  obtain ⟨qs, cp, rfl⟩ := own_shape hown
  obtain ⟨n, hnn⟩ : ∃ k, st.length = k := ⟨_, rfl⟩
  rw [hnn] at hown ⊢
  have HNN : Hid (st.length = n) := hnn
  have hn9 : n ≤ 9 := by omega
  have HOS3 : Hid (w3.ownsRow w2.heap.size 3 1 (.slice qs n cp) n (intsV st)) := hown
  have HOC3 : Hid (I.OwnI w3 w1.heap.size (.slice qc nc cc) rl) := own_gr HOC2.out hD3.2.2 (by omega)
  have HZ3 : Hid (Z3 w w3) := HZ2.out.gr hD3.2.2 hC
  have HD3 : Hid (Drawn w1 w3 C w.heap.size a len cap) := drawn_trans HD2.out hD3
  have s3 := hD3.2.2.size
  clear hown hD3 HD2 HOC2 HZ2 hst hnn
  go_wp2_with fail
  refine (arenaR C w.heap.size a len cap _ HD3.out.1 hBC HD3.out.2.1).mono ?_
  rintro e w4 ⟨g, m, ce, rfl, hcl, hm64, hrda, hg, hD4⟩
  have HCL : Hid (ce.length = m) := hcl
  have HRA4 : Hid (Rd w4 (some ⟨g, 0, none⟩) ce) := hrda
  have HOS4 : Hid (w4.ownsRow w2.heap.size 3 1 (.slice qs n cp) n (intsV st)) := own_gr HOS3.out hD4.2.2 (by omega)
  have HOC4 : Hid (I.OwnI w4 w1.heap.size (.slice qc nc cc) rl) := own_gr HOC3.out hD4.2.2 (by omega)
  have HZ4 : Hid (Z3 w w4) := HZ3.out.gr hD4.2.2 hC
  have HD4 : Hid (Drawn w1 w4 C w.heap.size a len cap) := drawn_trans HD3.out hD4
  have s4 := hD4.2.2.size
  clear hcl hrda hD4 HD3 HOS3 HOC3 HZ3
  go_wp2_with fail
  refine (regionR C w.heap.size a len cap _ HD4.out.1 hBC HD4.out.2.1).mono ?_
  rintro e w5 ⟨f, s, rfl, hD5⟩
  have HRA5 : Hid (Rd w5 (some ⟨g, 0, none⟩) ce) := rd_grown HRA4.out hD5.2.2 (by omega)
  have HOS5 : Hid (w5.ownsRow w2.heap.size 3 1 (.slice qs n cp) n (intsV st)) := own_gr HOS4.out hD5.2.2 (by omega)
  have HOC5 : Hid (I.OwnI w5 w1.heap.size (.slice qc nc cc) rl) := own_gr HOC4.out hD5.2.2 (by omega)
  have HZ5 : Hid (Z3 w w5) := HZ4.out.gr hD5.2.2 hC
  have HD5 : Hid (Drawn w1 w5 C w.heap.size a len cap) := drawn_trans HD4.out hD5
  have s5 := hD5.2.2.size
  clear hD5 HD4 HOS4 HOC4 HZ4 HRA4
  go_wp2_with fail
  refine (intD C w.heap.size a len cap _ HD5.out.1 hBC HD5.out.2.1).mono ?_
  rintro e w6 ⟨t, rfl, _, hD6⟩
  have HRA6 : Hid (Rd w6 (some ⟨g, 0, none⟩) ce) := rd_grown HRA5.out hD6.2.2 (by omega)
  have HOS6 : Hid (w6.ownsRow w2.heap.size 3 1 (.slice qs n cp) n (intsV st)) := own_gr HOS5.out hD6.2.2 (by omega)
  have HOC6 : Hid (I.OwnI w6 w1.heap.size (.slice qc nc cc) rl) := own_gr HOC5.out hD6.2.2 (by omega)
  have HZ6 : Hid (Z3 w w6) := HZ5.out.gr hD6.2.2 hC
  have HD6 : Hid (Drawn w1 w6 C w.heap.size a len cap) := drawn_trans HD5.out hD6
  have s6 := hD6.2.2.size
  clear hD6 HD5 HOS5 HOC5 HZ5 HRA5
  have kz1 := row2_cells HZ6.out.1
  have kz2 := row1_cells HZ6.out.2.1
  have kz3 := row2_cells HZ6.out.2.2
  have HW6 : Hid (Below w.heap.size w w6) := drawn_below HW1.out (by omega) HD6.out
  have e01 : ¬ w.heap.size = w.heap.size + 1 := by omega
  have hgs : w.heap.size + 3 ≤ g := by omega
  have hvs : ∀ k, (Value.slice qs n cp).ownBlock = some k → w.heap.size + 3 ≤ k := fun k hk => by have := own_ge HOS6.out k hk; omega
  have hvc : ∀ k, (Value.slice qc nc cc).ownBlock = some k → w.heap.size + 3 ≤ k := fun k hk => by have := own_ge HOC6.out k hk; omega
  have HVS : Hid (∀ k, (Value.slice qs n cp).ownBlock = some k → w.heap.size + 3 ≤ k) := hvs
  have HVC : Hid (∀ k, (Value.slice qc nc cc).ownBlock = some k → w.heap.size + 3 ≤ k) := hvc
  clear hvs hvc
  go_wp2
  refine bodyPost_ret (v := .tuple #[.agg #[.int .i64 pc, .slice qs n cp], .slice qc nc cc, .agg #[.slice (some ⟨g, 0, none⟩) m 64], .agg #[.int .i64 f, .int .i64 s], .int .i64 t]) (by simp [results, Try.results34, go_sem, kz1, kz2, kz3]) rfl ?_
  have oS := own_setOther (k := w.heap.size + 1 + 1) (i := 1) (x := .int .i64 s) (own_setOther (k := w.heap.size + 1 + 1) (i := 0) (x := .int .i64 f) (own_setOther (k := w.heap.size + 1) (i := 0) (x := .slice (some ⟨g, 0, none⟩) m 64) (own_setOther (k := w.heap.size) (i := 1) (x := .slice qs n cp) (own_setOther (k := w.heap.size) (i := 0) (x := .int .i64 pc) HOS6.out (fun k hk => by have := HVS.out k hk; omega)) (fun k hk => by have := HVS.out k hk; omega)) (fun k hk => by have := HVS.out k hk; omega)) (fun k hk => by have := HVS.out k hk; omega)) (fun k hk => by have := HVS.out k hk; omega)
  have oC : I.OwnI _ _ _ _ := own_setOther (k := w.heap.size + 1 + 1) (i := 1) (x := .int .i64 s) (own_setOther (k := w.heap.size + 1 + 1) (i := 0) (x := .int .i64 f) (own_setOther (k := w.heap.size + 1) (i := 0) (x := .slice (some ⟨g, 0, none⟩) m 64) (own_setOther (k := w.heap.size) (i := 1) (x := .slice qs n cp) (own_setOther (k := w.heap.size) (i := 0) (x := .int .i64 pc) HOC6.out (fun k hk => by have := HVC.out k hk; omega)) (fun k hk => by have := HVC.out k hk; omega)) (fun k hk => by have := HVC.out k hk; omega)) (fun k hk => by have := HVC.out k hk; omega)) (fun k hk => by have := HVC.out k hk; omega)
  have rm := own_room HOS6.out
  obtain ⟨qc', cc', hvv, hrd⟩ := I.OwnI.rd oC
  have hq : qc = qc' := by cases hvv; rfl
  subst hq
  exact ⟨pc, qs, n, cp, st, qc, nc, cc, rl, g, m, ce, f, s, t, rfl, HNN.out, hn9, rm.2.1, rm.2.2, own_rd' oS, HNC.out, hnc61, hrd, HCL.out, hm64, rd_set (rd_set (rd_set (rd_set (rd_set HRA6.out (by omega)) (by omega)) (by omega)) (by omega)) (by omega), ((((HW6.out.setCell (Nat.le_refl _) _).setCell (Nat.le_refl _) _).setCell (by show w.heap.size ≤ w.heap.size + 1; omega) _).setCell (by show w.heap.size ≤ w.heap.size + 1 + 1; omega) _).setCell (by show w.heap.size ≤ w.heap.size + 1 + 1; omega) _⟩
end Go.Proofs.Ytbacmkibilhkgaa.D
