/-
  A drawn arena.
-/
import Derived.Test.YtelhnoepkfojkaaDrawA8
namespace Go.Proofs.Ytelhnoepkfojkaa
open Go.RowKit Go.PlainAid
set_option linter.unusedVariables false

/-- what stands while an arena is drawn: the answer's box, the arena's, its cells -/
def DA (w W : World) (C B : Nat) (a : Option Addr) (len cap : Nat) (ba g : Nat) : Prop := Drawn w W C B a len cap ∧ W.heap[w.heap.size]? = some (.cells #[.slice none 0 0] 29) ∧ W.heap[ba]? = some (.cells #[.slice (some ⟨g, 0, none⟩) 64 64] 29) ∧ (∃ L : List Int, L.length = 64 ∧ RowAt W g L) ∧ C < w.heap.size ∧ B ≤ C ∧ w.heap.size < g ∧ w.heap.size < ba ∧ g ≠ ba
theorem DA.on {w W W' : World} {C B : Nat} {a : Option Addr} {len cap ba g : Nat} (h : DA w W C B a len cap ba g) (hD : Drawn W W' C B a len cap) : DA w W' C B a len cap ba g := by
  obtain ⟨h1, h2, h3, ⟨L, hL, hr⟩, h5, h6, h7, h8, h9⟩ := h
  exact ⟨drawn_trans h1 hD, row_drawn h2 hD.2.2 (by omega), row_drawn h3 hD.2.2 (by omega), ⟨L, hL, row_drawn hr hD.2.2 (by omega)⟩, h5, h6, h7, h8, h9⟩
theorem DA.drew {w W : World} {C B : Nat} {a : Option Addr} {len cap ba g : Nat} (h : DA w W C B a len cap ba g) : DA w W.drew C B a len cap ba g := ⟨drawn_drew h.1, h.2⟩
theorem DA.put {w W : World} {C B : Nat} {a : Option Addr} {len cap ba g : Nat} (h : DA w W C B a len cap ba g) (j : Nat) (x : Int) : DA w (W.setCell ⟨g, j, none⟩ (.int .i64 x)) C B a len cap ba g := by
  obtain ⟨h1, h2, h3, ⟨L, hL, hr⟩, h5, h6, h7, h8, h9⟩ := h
  exact ⟨drawn_put h1 _ _ (by omega) h5 h6, set_other h2 (by omega), set_other h3 (fun e => h9 e.symm), ⟨L.set j x, by rw [List.length_set]; exact hL, hr.set j x⟩, h5, h6, h7, h8, h9⟩
theorem DA.cell {w W : World} {C B : Nat} {a : Option Addr} {len cap ba g : Nat} (h : DA w W C B a len cap ba g) {j : Nat} (hj : j < 64) : ∃ x : Int, W.cell? ⟨g, j, none⟩ = some (.int .i64 x) ∧ W.frozen? ⟨g, j, none⟩ = false := by
  obtain ⟨L, hL, hr⟩ := h.2.2.2.1
  exact ⟨_, hr.cell j (by omega), hr.free j⟩
theorem da_conj {w W : World} {C B : Nat} {a : Option Addr} {len cap ba g : Nat} (h : DA w W C B a len cap ba g) : W.cell? ⟨ba, 0, none⟩ = some (.slice (some ⟨g, 0, none⟩) 64 64) ∧ DA w W C B a len cap ba g := ⟨(row1_cells h.2.2.1).1, h⟩

theorem DA.cut {w W : World} {C B : Nat} {a : Option Addr} {len cap ba g : Nat} (h : DA w W C B a len cap ba g) (v : Value) : Drawn w (W.setCell ⟨ba, 0, none⟩ v) C B a len cap ∧ (W.setCell ⟨ba, 0, none⟩ v).heap[w.heap.size]? = some (.cells #[.slice none 0 0] 29) ∧ (W.setCell ⟨ba, 0, none⟩ v).heap[ba]? = some (.cells #[v] 29) ∧ ∃ L : List Int, L.length = 64 ∧ RowAt (W.setCell ⟨ba, 0, none⟩ v) g L := by
  obtain ⟨h1, h2, h3, ⟨L, hL, hr⟩, h5, h6, h7, h8, h9⟩ := h
  exact ⟨drawn_put h1 _ _ (by omega) h5 h6, set_other h2 (by omega), set1_row h3, L, hL, set_other hr h9⟩
theorem rd_take {w : World} {g : Nat} {L : List Int} (h : RowAt w g L) (m : Nat) : Rd w (some ⟨g, 0, none⟩) (L.take m) := fun _ => ⟨g, 0, rfl, fun j hj => by
  have hj' : j < L.length := by simp at hj; omega
  rw [Nat.zero_add, h.cell j hj']
  simp⟩

set_option maxRecDepth 100000 in
set_option maxHeartbeats 2000000 in
theorem arenaR (C B : Nat) (a : Option Addr) (len cap : Nat) (w : World) (hC : Cur w C a len cap) (hB : B ≤ C) (hcode : CodeOk w B a len) :
    Calls Try.prog 52 #[.pointer (some ⟨C, 0, none⟩)] w fun e w' => ∃ (g n : Nat) (l : List Int), e = .returned (.agg #[.slice (some ⟨g, 0, none⟩) n 64]) ∧ l.length = n ∧ n ≤ 64 ∧ Rd w' (some ⟨g, 0, none⟩) l ∧ w.heap.size ≤ g ∧ Drawn w w' C B a len cap := by
  have hlt := cur_lt hC
  have HD0 : Hid (Drawn w (w.alloc (.cells #[.slice none 0 0] 29)) C B a len cap) := drawn_alloc ⟨hC, hcode, World.grownBy.refl _ _⟩ (by omega) _
  have HZ0 : Hid ((w.alloc (.cells #[.slice none 0 0] 29)).heap[w.heap.size]? = some (.cells #[.slice none 0 0] 29)) := heap_new w _
  clear hC hcode
  go_enter Try.func52, Try.ntmps52
  go_wp2_with fail
  refine (newS _).mono ?_
  rintro e w1 ⟨g, rfl, hg, hrow, hb1⟩
  have hg' : w.heap.size < g := by simp at hg; omega
  have s1 := hb1.size
  have lg := hrow.lt
  have HA : Hid (DA w (w1.alloc (.cells #[.slice (some ⟨g, 0, none⟩) 64 64] 29)) C B a len cap w1.heap.size g) := by
    have hb2 : Below (w.alloc (.cells #[.slice none 0 0] 29)).heap.size (w.alloc (.cells #[.slice none 0 0] 29)) (w1.alloc (.cells #[.slice (some ⟨g, 0, none⟩) 64 64] 29)) := hb1.alloc hb1.size _
    have hd : Drawn (w.alloc (.cells #[.slice none 0 0] 29)) (w1.alloc (.cells #[.slice (some ⟨g, 0, none⟩) 64 64] 29)) C B a len cap := by
      obtain ⟨⟨i, x, hi, hc⟩, hcode, _⟩ := HD0.out
      refine ⟨⟨i, x, hi, row_after hc hb2 (row_lt hc)⟩, code_below hcode (hb2.mono (by simp; omega)), ⟨hb2.os, hb2.tape, hb2.output, hb2.size, fun k hk _ => hb2.block k hk⟩⟩
    exact ⟨drawn_trans HD0.out hd, row_after HZ0.out hb2 (row_lt HZ0.out), heap_new w1 _, ⟨z64, by simp [z64], (Below.heap_alloc _ _ _ lg).trans hrow⟩, hlt, hB, hg', by simp at s1; omega, by omega⟩
  clear hrow hb1 HD0 HZ0
  go_wp2
  go_loopg [4] 10 (fun gk iv wr => ∃ i : Nat, i + gk = 10 ∧ iv = .int .i64 i ∧ Hid (DA w wr C B a len cap w1.heap.size g))
  case atStart => exact ⟨0, by omega, rfl, HA⟩
  case round =>
    clear HA
    obtain ⟨i, hi, rfl, HA⟩ := hrel
    by_cases hlt2 : i < 10
    · go_wp2_with fail
      go_region_held3 (fun w' => w'.cell? ⟨w1.heap.size, 0, none⟩ = some (.slice (some ⟨g, 0, none⟩) 64 64) ∧ DA w w' C B a len cap w1.heap.size g) (first | (exact da_conj HAb.out) | (exact da_conj HAa.out) | (exact da_conj HA.out.drew) | (exact da_conj (HAb.out.put _ _))) (first | (go_at_call 47; (fail_if_success (have hq := HAa)); refine (below28 C B a len cap 64 (by omega) (by omega) _ ?_ hB ?_).mono ?_; (exact (And.right (by assumption : _ ∧ DA w _ C B a len cap w1.heap.size g)).1.1); (exact (And.right (by assumption : _ ∧ DA w _ C B a len cap w1.heap.size g)).1.2.1); rintro e w2 ⟨j0, rfl, j0a, j0b, hDa⟩; obtain ⟨j, rfl⟩ := Int.eq_ofNat_of_zero_le j0a; have HAa : Hid (DA w w2 C B a len cap w1.heap.size g) := (And.right (by assumption : _ ∧ DA w _ C B a len cap w1.heap.size g)).on hDa) | (go_at_call 47; refine (below28 C B a len cap 65536 (by omega) (by omega) _ HAa.out.1.1 hB HAa.out.1.2.1).mono ?_; rintro e w3 ⟨y, rfl, ya, yb, hDb⟩; have HAb : Hid (DA w w3 C B a len cap w1.heap.size g) := HAa.out.on hDb; obtain ⟨x, hx1, hx2⟩ := HAb.out.cell (show j < 64 by omega)))
      rename_i HH
      have HA2 : Hid (DA w _ C B a len cap w1.heap.size g) := HH.2
      clear HH hDa hDb HAa HAb hx1 hx2 HA
      go_wp2
      go_roundg (gk - 1)
      case measure => omega
      case rel => exact ⟨i + 1, by omega, by go_num, HA2⟩
    · go_wp2_with fail
      refine (onceR C B a len cap 12 (by omega) (by omega) _ HA.out.1.1 hB HA.out.1.2.1).mono ?_
      rintro e w4 ⟨b, rfl, hD⟩
      have HA4 : Hid (DA w w4 C B a len cap w1.heap.size g) := HA.out.on hD
      clear hD HA
      have kz := row1_cells HA4.out.2.1
      have ka := row1_cells HA4.out.2.2.1
      cases b
      · obtain ⟨L, hL, hr⟩ := HA4.out.2.2.2.1
        have HR : Hid (RowAt w4 g L) := hr
        have HL : Hid (L.length = 64) := hL
        clear hr hL
        go_wp2
        refine bodyPost_ret (v := .agg #[.slice (some ⟨g, 0, none⟩) 64 64]) (by simp [results, Try.results52, go_sem, kz]) rfl ⟨g, 64, L, rfl, HL.out, by omega, RowAt.rd (set_other HR.out (by omega)), by omega, drawn_put HA4.out.1 _ _ (Nat.le_refl _) hlt hB⟩
      · go_upto_region 7 with fail
        go_cut [] (fun wc => ∃ m : Nat, m ≤ 64 ∧ Hid (Drawn w wc C B a len cap) ∧ Hid (wc.heap[w.heap.size]? = some (.cells #[.slice none 0 0] 29)) ∧ Hid (wc.heap[w1.heap.size]? = some (.cells #[.slice (some ⟨g, 0, none⟩) m 64] 29)) ∧ Hid (∃ L : List Int, L.length = 64 ∧ RowAt wc g L))
        case first =>
          go_region_with (go_at_call 47; refine (below28 C B a len cap 60 (by omega) (by omega) _ HA4.out.drew.1.1 hB HA4.out.drew.1.2.1).mono ?_; rintro e w5 ⟨m0, rfl, m0a, m0b, hD⟩; obtain ⟨m, rfl⟩ := Int.eq_ofNat_of_zero_le m0a; have HA5 : Hid (DA w w5 C B a len cap w1.heap.size g) := HA4.out.drew.on hD; have k5 := row1_cells HA5.out.2.2.1)
          all_goals (try go_wp2_with fail)
          all_goals go_meet
          all_goals exact ⟨m, by omega, (HA5.out.cut _).1, (HA5.out.cut _).2.1, (HA5.out.cut _).2.2.1, (HA5.out.cut _).2.2.2⟩
        case rest =>
          rename World => wE
          obtain ⟨m, hm, HD, HZ, HBa, HLx⟩ := hcut
          obtain ⟨L, hL, hr⟩ := HLx.out
          have HR : Hid (RowAt wE g L) := hr
          have HL : Hid ((L.take m).length = m) := by show _ = _; simp; omega
          clear hr hL HLx HA4 kz ka
          have kz := row1_cells HZ.out
          have ka := row1_cells HBa.out
          go_wp2
          refine bodyPost_ret (v := .agg #[.slice (some ⟨g, 0, none⟩) m 64]) (by simp [results, Try.results52, go_sem, kz]) rfl ⟨g, m, L.take m, rfl, HL.out, hm, rd_take (set_other HR.out (by omega)) m, by omega, drawn_put HD.out _ _ (Nat.le_refl _) hlt hB⟩

/-- two lists that are alike -/
theorem sameI (a b : Option Addr) (l : List Int) (n ca cb : Nat) (hl : l.length = n) (hn : n ≤ 1048576) (w : World) (ha : Rd w a l) (hb : Rd w b l) :
    Calls Try.prog 30 #[.slice a n ca, .slice b n cb] w fun e w' => e = .returned (.bool true) ∧ Below w.heap.size w w' := by
  by_cases hp : 0 < n
  · obtain ⟨g, o1, rfl, hcg⟩ := ha (by omega)
    obtain ⟨h, o2, rfl, hch⟩ := hb (by omega)
    have HA : Hid (∀ j (hj : j < l.length), w.cell? ⟨g, o1 + j, none⟩ = some (.int .i64 l[j])) := hcg
    have HB : Hid (∀ j (hj : j < l.length), w.cell? ⟨h, o2 + j, none⟩ = some (.int .i64 l[j])) := hch
    have HL : Hid (l.length = n) := hl
    clear ha hb hcg hch hl
    go_enter Try.func30, Try.ntmps30
    go_wp2
    go_loopw [5] (fun i wr => ∃ (j q : Nat), j ≤ n ∧ i = .int .i64 j ∧ wr = w.drewN q) (fun i _ => n - (intOf i).toNat)
    case atStart => exact ⟨0, 0, Nat.zero_le _, rfl, rfl⟩
    case round =>
      obtain ⟨j, q, hj, rfl, rfl⟩ := hrel
      by_cases hlt : j < n
      · have c1 := HA.out j (by have := HL.out; omega)
        have c2 := HB.out j (by have := HL.out; omega)
        generalize l[j]'(by have := HL.out; omega) = x at c1 c2
        have i0 : (0 : Int) ≤ (j : Int) := by omega
        have i1 : (j : Int) < (n : Int) := by omega
        go_wp2
        go_quiet (fail)
        go_wp2
        go_roundw
        case rel => exact ⟨j + 1, q + nq, by omega, by go_num, rfl⟩
        case measure => simp [intOf]; omega
      · go_wp2
        go_ret
        exact ⟨rfl, below_drewN (Below.refl _ _) _⟩
  · obtain rfl : n = 0 := by omega
    clear ha hb hp
    go_enter Try.func30, Try.ntmps30
    go_wp2
    go_rounds 1
    go_ret
    exact ⟨rfl, Below.refl _ _⟩

theorem dany (B : Nat) (a : Option Addr) (len cap : Nat) (w : World) (hcode : CodeOk w B a len) (hB : B ≤ w.heap.size) :
    Calls Try.prog 31 #[.slice a len cap] w fun e w' => ∃ (q : Option Addr) (n c : Nat) (rl : List (Int × Int)), e = .returned (.slice q n c) ∧ rl.length = n ∧ n ≤ 5 ∧ n ≤ c ∧ RdR w' q rl ∧ Below w.heap.size w w' := by
  have HC : Hid (CodeOk w B a len) := hcode
  clear hcode
  go_enter Try.func31, Try.ntmps31
  go_wp2_with fail
  refine (new23 B a len cap _ HC.out hB).mono ?_
  rintro e w1 ⟨C, rfl, hC, hcur, hcode, hb1⟩
  have HCu : Hid (Cur w1 C a len cap) := hcur
  have HCo : Hid (CodeOk w1 B a len) := hcode
  have HW : Hid (Below w.heap.size w w1) := hb1
  have hBC : B ≤ C := by omega
  clear hcur hcode hb1
  go_wp2_with fail
  refine (anyR C B a len cap _ HCu.out hBC HCo.out).mono ?_
  rintro e w2 ⟨v, rl, rfl, h5, hown, hD⟩
  obtain ⟨q, c, hv, hnc, _, hrd⟩ := own_rdR hown
  subst hv
  have HR : Hid (RdR w2 q rl) := hrd
  have HW2 : Hid (Below w.heap.size w w2) := drawn_below HW.out hC hD
  clear hown hD hrd
  go_wp2
  go_ret
  exact ⟨q, _, c, rl, rfl, rfl, h5, hnc, HR.out, HW2.out⟩

theorem two_new (w : World) (x y z : Value) (t r : TypeId) : ((w.alloc (.cells #[x] t)).alloc (.cells #[y, z] r)).heap[w.heap.size]? = some (.cells #[x] t) ∧ ((w.alloc (.cells #[x] t)).alloc (.cells #[y, z] r)).heap[w.heap.size + 1]? = some (.cells #[y, z] r) ∧ Below w.heap.size w ((w.alloc (.cells #[x] t)).alloc (.cells #[y, z] r)) := arena_start w x y z t r

theorem rd_set {W : World} {g k i : Nat} {l : List Int} {v : Value} (h : Rd W (some ⟨g, 0, none⟩) l) (hk : g ≠ k) : Rd (W.setCell ⟨k, i, none⟩ v) (some ⟨g, 0, none⟩) l := fun h0 => by
  obtain ⟨g', o', e, hc⟩ := h h0
  cases e
  exact ⟨g, 0, rfl, fun j hj => (World.cell?_of_block (a := ⟨g, 0 + j, none⟩) (Below.heap_setCell _ _ _ _ hk)).trans (hc j hj)⟩

set_option maxRecDepth 100000 in
set_option maxHeartbeats 1000000 in
theorem dcells (B : Nat) (a : Option Addr) (len cap : Nat) (w : World) (hcode : CodeOk w B a len) (hB : B ≤ w.heap.size) :
    Calls Try.prog 32 #[.slice a len cap] w fun e w' => ∃ (g n : Nat) (l : List Int) (f s : Int), e = .returned (.tuple #[.agg #[.slice (some ⟨g, 0, none⟩) n 64], .agg #[.int .i64 f, .int .i64 s]]) ∧ l.length = n ∧ n ≤ 64 ∧ Rd w' (some ⟨g, 0, none⟩) l ∧ Below w.heap.size w w' := by
  obtain ⟨hX, hY, hW⟩ := two_new w (.slice none 0 0) (.int .i64 0) (.int .i64 0) 29 31
  have HX : Hid (_ = _) := hX
  have HY : Hid (_ = _) := hY
  have HW : Hid (Below _ _ _) := hW
  have HC : Hid (CodeOk ((w.alloc (.cells #[.slice none 0 0] 29)).alloc (.cells #[.int .i64 0, .int .i64 0] 31)) B a len) := code_below hcode (hW.mono hB)
  clear hX hY hW hcode
  go_enter Try.func32, Try.ntmps32
  go_wp2_with fail
  refine (new23 B a len cap _ HC.out (by simp; omega)).mono ?_
  rintro e w1 ⟨C, rfl, hC, hcur, hcode, hb1⟩
  have HCu : Hid (Cur w1 C a len cap) := hcur
  have HCo : Hid (CodeOk w1 B a len) := hcode
  have HX1 : Hid (_ = _) := row_after HX.out hb1 (row_lt HX.out)
  have HY1 : Hid (_ = _) := row_after HY.out hb1 (row_lt HY.out)
  have HW1 : Hid (Below w.heap.size w w1) := HW.out.trans (hb1.mono HW.out.size)
  have hC1 : w.heap.size + 2 ≤ C := by simp at hC; omega
  have hBC : B ≤ C := by omega
  clear hcur hcode hb1 HX HY HW HC hC
  go_wp2_with fail
  refine (arenaR C B a len cap _ HCu.out hBC HCo.out).mono ?_
  rintro e w2 ⟨g, n, l, rfl, hl, hn, hrd, hg, hD⟩
  have HX2 : Hid (_ = _) := row_drawn HX1.out hD.2.2 (by omega)
  have HY2 : Hid (_ = _) := row_drawn HY1.out hD.2.2 (by omega)
  have HW2 : Hid (Below w.heap.size w w2) := drawn_below HW1.out (by omega) hD
  have HD2 : Hid (Drawn w1 w2 C B a len cap) := hD
  have HR2 : Hid (Rd w2 (some ⟨g, 0, none⟩) l) := hrd
  have HL : Hid (l.length = n) := hl
  have l1 := row_lt HY1.out
  have lC := cur_lt HCu.out
  clear hD hrd hl HX1 HY1 HW1 HCu HCo
  go_wp2_with fail
  refine (regionR C B a len cap _ HD2.out.1 hBC HD2.out.2.1).mono ?_
  rintro e w3 ⟨f, s, rfl, hD⟩
  have kx := row1_cells (row_drawn HX2.out hD.2.2 (by omega))
  have ky := row2_cells (row_drawn HY2.out hD.2.2 (by omega))
  have HW3 : Hid (Below w.heap.size w w3) := drawn_below HW2.out (by omega) hD
  have HR3 : Hid (Rd w3 (some ⟨g, 0, none⟩) l) := fun h0 => by
    obtain ⟨g', o', e, hc⟩ := HR2.out h0
    cases e
    exact ⟨g, 0, rfl, fun j hj => (hD.2.2.cell_far ⟨g, 0 + j, none⟩ (World.block_lt_of_cell? w2 ⟨g, 0 + j, none⟩ (hc j hj)) (by simp; omega)).trans (hc j hj)⟩
  clear hD HX2 HY2 HW2 HD2 HR2
  go_wp2
  refine bodyPost_ret (v := .tuple #[.agg #[.slice (some ⟨g, 0, none⟩) n 64], .agg #[.int .i64 f, .int .i64 s]]) (by simp [results, Try.results32, go_sem, kx, ky]) rfl ⟨g, n, l, f, s, rfl, HL.out, hn, ?_, ?_⟩
  · exact rd_set (rd_set (rd_set HR3.out (by omega)) (by omega)) (by omega)
  · exact ((HW3.out.setCell (Nat.le_refl _) _).setCell (by simp) _).setCell (by simp) _
end Go.Proofs.Ytelhnoepkfojkaa
