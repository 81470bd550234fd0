/-
  CellsOf and ClearCells of the specification: contracts.
-/
import Derived.Test.YtelhnoepkfojkaaSpec8
namespace Go.Proofs.Ytelhnoepkfojkaa
open Go.RowKit Go.PlainAid
set_option linter.unusedVariables false

theorem own_nothing (w : World) (B : Nat) (a : Option Addr) (hB : B ≤ w.heap.size) : (w.alloc (.cells #[] 3)).ownsRow B 3 1 (.slice (some ⟨w.heap.size, 0, none⟩) 0 0) 0 (intsV []) := own_built3 w B hB

theorem ceL_take_succ {l : List Int} {f s : Int} {p : Nat} (h : p < cutN l.length f s) (hf : f.toNat + p < l.length) : (ceL l f s).take (p + 1) = (ceL l f s).take p ++ [l[f.toNat + p]] := by
  have hl := ceL_len l f s
  rw [List.take_succ_eq_append_getElem (by omega)]
  congr 1
  simp [ceL]
theorem ceL_take_end {l : List Int} {f s : Int} {p : Nat} (h : cutN l.length f s ≤ p) : (ceL l f s).take p = ceL l f s :=
  List.take_of_length_le (by rw [ceL_len]; exact h)
theorem cut_done {n p : Nat} {f s : Int} (h : ¬ ((p : Int) < s ∧ (p : Int) < (n : Int))) : cutN n f s ≤ p := by
  have := cutN_le n f s
  by_cases h0 : 0 < cutN n f s
  · have := cutN_in h0
    omega
  · omega
theorem atP_in {n p : Nat} {f s : Int} (h : p < cutN n f s) : atP n f s (p : Int) = f + p := if_pos ⟨by omega, by omega⟩
theorem atP_out {n p : Nat} {f s : Int} (h : ¬ p < cutN n f s) : atP n f s (p : Int) = -1 := if_neg (by omega)

/-- what stands while cells are gathered -/
def CLive (w W : World) (u x y : Value) : Prop := W.heap[w.heap.size]? = some (.cells #[u] 29) ∧ W.heap[w.heap.size + 1]? = some (.cells #[x, y] 31) ∧ Below w.heap.size w W
theorem clive_start (w : World) (u x y : Value) : CLive w ((w.alloc (.cells #[u] 29)).alloc (.cells #[x, y] 31)) u x y := arena_start w u x y _ _
theorem CLive.alloc {w W : World} {u x y : Value} (h : CLive w W u x y) (o : Obj) : CLive w (W.alloc o) u x y :=
  ⟨(Below.heap_alloc _ _ _ (row_lt h.1)).trans h.1, (Below.heap_alloc _ _ _ (row_lt h.2.1)).trans h.2.1, h.2.2.alloc h.2.2.size _⟩
theorem CLive.keep {w W W' : World} {u x y : Value} (h : CLive w W u x y) (hb : Below W.heap.size W W') : CLive w W' u x y :=
  ⟨row_after h.1 hb (row_lt h.1), row_after h.2.1 hb (row_lt h.2.1), h.2.2.trans (hb.mono h.2.2.size)⟩
theorem CLive.grown {w W W' : World} {u x y : Value} {r : Option Nat} (h : CLive w W u x y) (hg : W.grownBy W' r) (hr : ∀ g, r = some g → w.heap.size + 2 ≤ g) : CLive w W' u x y :=
  ⟨grown_row hg h.1 (fun e => by have := hr _ e; omega), grown_row hg h.2.1 (fun e => by have := hr _ e; omega), h.2.2.grown hg h.2.2.size (fun g e => by have := hr g e; omega)⟩
theorem CLive.lt {w W : World} {u x y : Value} (h : CLive w W u x y) : w.heap.size + 2 ≤ W.heap.size := row_lt h.2.1

set_option maxRecDepth 100000 in
set_option maxHeartbeats 1000000 in
theorem cellsS (a : Option Addr) (l : List Int) (n cap : Nat) (f s : Int) (hl : l.length = n) (hn : n ≤ 1048576) (w : World) (hr : Rd w a l) :
    Calls Try.prog 10 #[.agg #[.slice a n cap], .agg #[.int .i64 f, .int .i64 s]] w fun e w' => ∃ v, e = .returned v ∧ w'.ownsRow w.heap.size 3 1 v (cutN n f s) (intsV (ceL l f s)) ∧ Below w.heap.size w w' := by
  obtain ⟨i0, hi, hz0, hz1, hz2⟩ := info_parts info3
  have HL : Hid (l.length = n) := hl
  have HC0 : Hid (CLive w _ _ _ _) := (clive_start w (.slice a n cap) (.int .i64 f) (.int .i64 s)).alloc (.cells #[] 3)
  have how : (((w.alloc (.cells #[.slice a n cap] 29)).alloc (.cells #[.int .i64 f, .int .i64 s] 31)).alloc (.cells #[] 3)).ownsRow (w.heap.size + 2) 3 1 (.slice (some ⟨w.heap.size + 1 + 1, 0, none⟩) 0 0) ((ceL l f s).take 0).length (intsV ((ceL l f s).take 0)) := by
    have := own_built3 ((w.alloc (.cells #[.slice a n cap] 29)).alloc (.cells #[.int .i64 f, .int .i64 s] 31)) (w.heap.size + 2) (by simp)
    simpa [intsV] using this
  have HOW : Hid (World.ownsRow _ _ _ _ _ _ _) := how
  clear how hl
  by_cases hn0 : 0 < n
  · obtain ⟨g, off, rfl, hc⟩ := hr (by have := HL.out; omega)
    have HR : Hid (∀ j (h : j < l.length), w.cell? ⟨g, off + j, none⟩ = some (.int .i64 l[j])) := hc
    clear hr hc
    go_enter Try.func10, Try.ntmps10
    go_wp2
    go_loopw [5, 6] (fun v i wr => ∃ (p c : Nat) (q : Option Addr), p ≤ n ∧ i = .int .i64 p ∧ v = .slice q ((ceL l f s).take p).length c ∧ Hid (wr.ownsRow (w.heap.size + 2) 3 1 (.slice q ((ceL l f s).take p).length c) ((ceL l f s).take p).length (intsV ((ceL l f s).take p))) ∧ Hid (CLive w wr (.slice (some ⟨g, off, none⟩) n cap) (.int .i64 f) (.int .i64 s))) (fun _ i _ => n - (intOf i).toNat)
    case atStart => exact ⟨0, 0, some ⟨w.heap.size + 1 + 1, 0, none⟩, Nat.zero_le _, rfl, rfl, HOW, HC0⟩
    case round =>
      clear HOW HC0
      obtain ⟨p, c, q, hp, rfl, rfl, HO, HC⟩ := hrel
      have k1 := row1_cells HC.out.1
      have k2 := row2_cells HC.out.2.1
      have HM : Hid (((ceL l f s).take p).length ≤ p) := by show _ ≤ _; simp; omega
      by_cases hlt : (p : Int) < s ∧ (p : Int) < (n : Int)
      · obtain ⟨hlt1, hlt2⟩ := hlt
        obtain ⟨m, HMe⟩ : ∃ m, Hid (((ceL l f s).take p).length = m) := ⟨_, rfl⟩
        rw [HMe.out] at HO HM ⊢
        go_wp2_with fail
        refine (atS (some ⟨g, off, none⟩) n cap f s p hn _).mono ?_
        rintro e w1 ⟨rfl, hb1⟩
        have HC1 : Hid (CLive w w1 (.slice (some ⟨g, off, none⟩) n cap) (.int .i64 f) (.int .i64 s)) := HC.out.keep hb1
        have hown1 := own_keep HO.out hb1 (own_lt HO.out)
        have HB1 := hb1.size
        clear hb1 HC k1 k2 HO
        have k1 := row1_cells HC1.out.1
        by_cases hpk : p < cutN n f s
        · obtain ⟨f0, f1, _, _⟩ := cutN_in (n := n) (f := f) (s := s) (by omega)
          obtain ⟨fn, rfl⟩ := Int.eq_ofNat_of_zero_le f0
          have hfn : fn + p < l.length := by have := HL.out; simp at f1; omega
          have hcell := (HC1.out.2.2.cell (p := ⟨g, off + (fn + p), none⟩) (World.block_lt_of_cell? w ⟨g, off + (fn + p), none⟩ (HR.out _ hfn))).trans (HR.out (fn + p) hfn)
          have HX : Hid ((ceL l (fn : Int) s).take (p + 1) = (ceL l (fn : Int) s).take p ++ [l[fn + p]]) := ceL_take_succ (by rw [HL.out]; exact hpk) (by simpa using hfn)
          have hat : atP n (fn : Int) s (p : Int) = ((fn + p : Nat) : Int) := by rw [atP_in hpk]; omega
          have hfn2 : fn + p < n := by have := HL.out; omega
          rw [hat]
          clear hat f1
          generalize l[fn + p] = x at hcell HX
          generalize fn + p = j at hcell hfn hfn2 ⊢
          go_wp2_with (at_builtin; refine wpList_append_own _ rfl _ _ 22 rfl (w.heap.size + 2) 3 i0 (.int .i64 0) 1 8 Try.underlying22 hi hz0 hz1 hz2 rfl (by decide) _ _ _ rfl (hown1.alloc _) ⟨w1.heap.size, 0, none⟩ 1 1 [.int .i64 x] rfl rfl ?c1 ?c2 ?c3 ?c4 ?c5 ?_)
          case c1 => exact one_cell3 w1 _ _ rfl
          case c2 => intro u hu; simp at hu; subst hu; rfl
          case c3 => have := HM.out; unfold maxLen; omega
          case c4 => have := HM.out; omega
          case c5 => have := HC1.out.lt; simp; omega
          intro v' w5 hown5 hgrow _
          have HC5 : Hid (CLive w w5 (.slice (some ⟨g, off, none⟩) n cap) (.int .i64 (fn : Int)) (.int .i64 s)) := (HC1.out.alloc _).grown hgrow (fun g' e => own_ge hown1 g' e)
          have HLE : Hid (((ceL l (fn : Int) s).take (p + 1)).length = m + 1) := by have := HMe.out; rw [HX.out]; simp only [List.length_append, this]; rfl
          obtain ⟨q', c', hv⟩ := own_shape hown5
          subst hv
          have HO5 : Hid (w5.ownsRow (w.heap.size + 2) 3 1 (.slice q' ((ceL l (fn : Int) s).take (p + 1)).length c') ((ceL l (fn : Int) s).take (p + 1)).length (intsV ((ceL l (fn : Int) s).take (p + 1)))) := by
            rw [HLE.out, HX.out, show intsV ((ceL l (fn : Int) s).take p ++ [x]) = intsV ((ceL l (fn : Int) s).take p) ++ [.int .i64 x] by simp [intsV]]
            exact hown5
          clear hown5 hgrow hown1 HC1 k1
          go_wp2
          go_roundw
          case rel => exact ⟨p + 1, c', q', by omega, by go_num, by rw [HLE.out], HO5, HC5⟩
          case measure => simp [intOf]; omega
        · have hat : atP n f s (p : Int) = -1 := atP_out hpk
          have HE : Hid ((ceL l f s).take p = (ceL l f s).take (p + 1)) := by have h1 := ceL_take_end (l := l) (f := f) (s := s) (p := p) (by rw [HL.out]; omega); have h2 := ceL_take_end (l := l) (f := f) (s := s) (p := p + 1) (by rw [HL.out]; omega); show _ = _; rw [h1, h2]
          have HO1 : Hid (w1.ownsRow (w.heap.size + 2) 3 1 (.slice q m c) m (intsV ((ceL l f s).take (p + 1)))) := by have := hown1; rw [HE.out] at this; exact this
          have HLE : Hid (((ceL l f s).take (p + 1)).length = m) := by have := HMe.out; rw [HE.out] at this; exact this
          rw [hat]
          clear hat hown1
          go_wp2
          go_roundw
          case rel => exact ⟨p + 1, c, q, by omega, by go_num, by rw [HLE.out], (by rw [HLE.out]; exact HO1), HC1⟩
          case measure => simp [intOf]; omega
      · have HE : Hid ((ceL l f s).take p = ceL l f s) := ceL_take_end (by rw [HL.out]; exact cut_done hlt)
        have HK : Hid ((ceL l f s).length = cutN n f s) := by have := ceL_len l f s; rw [HL.out] at this; exact this
        have HO' : Hid (wr.ownsRow (w.heap.size + 2) 3 1 (.slice q (cutN n f s) c) (cutN n f s) (intsV (ceL l f s))) := by have := HO.out; rw [HE.out, HK.out] at this; exact this
        have hlen : ((ceL l f s).take p).length = cutN n f s := by rw [HE.out, HK.out]
        rw [hlen]
        clear hlen
        by_cases hlt1 : (p : Int) < s
        · have hlt2 : ¬ (p : Int) < (n : Int) := fun h => hlt ⟨hlt1, h⟩
          clear hlt HO
          go_wp2
          go_ret
          exact ⟨_, rfl, own_mono HO'.out (by omega), HC.out.2.2⟩
        · clear hlt HO
          go_wp2
          go_ret
          exact ⟨_, rfl, own_mono HO'.out (by omega), HC.out.2.2⟩
  · obtain rfl : n = 0 := by omega
    have HE : Hid (cutN 0 f s = 0) := by have := cutN_le 0 f s; show _ = _; omega
    have HL0 : Hid (ceL l f s = []) := List.eq_nil_of_length_eq_zero (by rw [ceL_len, HL.out]; exact HE.out)
    rw [HL0.out] at HOW
    have hc := HC0.out.2.2
    have HW : Hid (Below _ _ _) := hc
    clear hn0 hr hc
    by_cases hs : 0 < s
    · go_enter Try.func10, Try.ntmps10
      go_wp2
      go_rounds 1
      go_ret
      exact ⟨_, rfl, by rw [HE.out, HL0.out]; exact own_mono HOW.out (by omega), HW.out⟩
    · go_enter Try.func10, Try.ntmps10
      go_wp2
      go_rounds 1
      go_ret
      exact ⟨_, rfl, by rw [HE.out, HL0.out]; exact own_mono HOW.out (by omega), HW.out⟩

/-- the first p of a region's cells are 0 -/
def clP (l : List Int) (f s : Int) (p : Nat) : List Int := l.take f.toNat ++ (List.replicate (min p (cutN l.length f s)) 0 ++ l.drop (f.toNat + min p (cutN l.length f s)))
theorem clP_zero (l : List Int) (f s : Int) : clP l f s 0 = l := by simp [clP]
theorem clP_end {l : List Int} {f s : Int} {p : Nat} (h : cutN l.length f s ≤ p) : clP l f s p = clL l f s := by
  unfold clP clL
  rw [Nat.min_eq_right h]
theorem clP_len (l : List Int) (f s : Int) (p : Nat) : (clP l f s p).length = l.length := by
  by_cases h : 0 < cutN l.length f s
  · have := cutN_in h
    unfold clP
    simp; omega
  · have h0 : cutN l.length f s = 0 := by omega
    simp [clP, h0]
theorem zero_step (l : List Int) (a p : Nat) (h : a + p < l.length) : (l.take a ++ (List.replicate p 0 ++ l.drop (a + p))).set (a + p) 0 = l.take a ++ (List.replicate (p + 1) 0 ++ l.drop (a + (p + 1))) := by
  have h1 : (l.take a).length = a := by simp; omega
  rw [List.drop_eq_getElem_cons h, List.set_append_right _ _ (by omega), List.set_append_right _ _ (by simp; omega), h1]
  simp [List.replicate_succ', Nat.add_assoc]
theorem clP_succ {l : List Int} {f s : Int} {p : Nat} (h : p < cutN l.length f s) : (clP l f s p).set (f.toNat + p) 0 = clP l f s (p + 1) := by
  have hc := cutN_in (n := l.length) (f := f) (s := s) (by omega)
  have e1 : clP l f s p = l.take f.toNat ++ (List.replicate p 0 ++ l.drop (f.toNat + p)) := by unfold clP; rw [Nat.min_eq_left (by omega)]
  have e2 : clP l f s (p + 1) = l.take f.toNat ++ (List.replicate (p + 1) 0 ++ l.drop (f.toNat + (p + 1))) := by unfold clP; rw [Nat.min_eq_left (by omega)]
  rw [e1, e2]
  exact zero_step l f.toNat p (by omega)
theorem clP_out {l : List Int} {f s : Int} {p : Nat} (h : cutN l.length f s ≤ p) : clP l f s p = clP l f s (p + 1) := by rw [clP_end h, clP_end (by omega)]

/-- what stands while cells are cleared: the arena's box, the region's, the answer's, that of the copy -/
def KLive (w W : World) (u x y v : Value) (Z : Nat) : Prop := CLive w W u x y ∧ W.heap[w.heap.size + 2]? = some (.cells #[.slice none 0 0] 29) ∧ W.heap[Z]? = some (.cells #[v] 29) ∧ w.heap.size + 3 ≤ Z
theorem KLive.keep {w W W' : World} {u x y v : Value} {Z : Nat} (h : KLive w W u x y v Z) (hb : Below W.heap.size W W') : KLive w W' u x y v Z :=
  ⟨h.1.keep hb, row_after h.2.1 hb (row_lt h.2.1), row_after h.2.2.1 hb (row_lt h.2.2.1), h.2.2.2⟩
theorem KLive.set {w W : World} {u x y v z : Value} {Z g i : Nat} (h : KLive w W u x y v Z) (hg : w.heap.size + 3 ≤ g) (hZ : g ≠ Z) : KLive w (W.setCell ⟨g, i, none⟩ z) u x y v Z :=
  ⟨⟨set_other h.1.1 (by omega), set_other h.1.2.1 (by omega), h.1.2.2.setCell (by show _ ≤ g; omega) _⟩, set_other h.2.1 (by omega), set_other h.2.2.1 (by omega), h.2.2.2⟩
theorem own_put {w : World} {B n g c j : Nat} {l : List Int} {x : Int} (h : w.ownsRow B 3 1 (.slice (some ⟨g, 0, none⟩) n c) n (intsV l)) (hj : j < l.length) : (w.setCell ⟨g, j, none⟩ (.int .i64 x)).ownsRow B 3 1 (.slice (some ⟨g, 0, none⟩) n c) n (intsV (l.set j x)) := by
  have := (h.stored j (.int .i64 x)).1
  rw [intsV_set] at this
  exact this

theorem own_addr {w : World} {B e z n c : Nat} {q : Option Addr} {xs : List Value} (h : w.ownsRow B e z (.slice q n c) n xs) (h0 : 0 < n) : ∃ g, q = some ⟨g, 0, none⟩ ∧ B ≤ g := by
  rcases h.2 with ⟨hv, e⟩ | ⟨g, cap, cur, hv, hg, _⟩
  · omega
  · cases hv
    exact ⟨g, rfl, hg⟩
theorem own_at {w : World} {B n g c j : Nat} {l : List Int} (h : w.ownsRow B 3 1 (.slice (some ⟨g, 0, none⟩) n c) n (intsV l)) (hj : j < l.length) : w.cell? ⟨g, j, none⟩ = some (.int .i64 l[j]) ∧ w.frozen? ⟨g, j, none⟩ = false := by
  have hl : l.length = n := by have := h.1; rw [intsV_len] at this; omega
  refine ⟨?_, h.frozenAt j⟩
  rw [h.cellAt j (by omega)]
  simp [intsV, hj]

set_option maxRecDepth 100000 in
set_option maxHeartbeats 1000000 in
theorem clearS (ad : Addr) (l : List Int) (n cap : Nat) (f s : Int) (hl : l.length = n) (hn : n ≤ 1048576) (w : World) (hr : Rd w (some ad) l) :
    Calls Try.prog 19 #[.agg #[.slice (some ad) n cap], .agg #[.int .i64 f, .int .i64 s]] w fun e w' => ∃ v, e = .returned (.agg #[v]) ∧ w'.ownsRow w.heap.size 3 1 v n (intsV (clL l f s)) ∧ Below w.heap.size w w' := by
  have HL : Hid (l.length = n) := hl
  have hc := clive_start w (.slice (some ad) n cap) (.int .i64 f) (.int .i64 s)
  have HC0 : Hid (CLive w _ _ _ _) := hc.alloc (.cells #[.slice none 0 0] 29)
  have HZ0 : Hid ((((w.alloc (.cells #[.slice (some ad) n cap] 29)).alloc (.cells #[.int .i64 f, .int .i64 s] 31)).alloc (.cells #[.slice none 0 0] 29)).heap[w.heap.size + 2]? = some (.cells #[.slice none 0 0] 29)) := by
    have := heap_new ((w.alloc (.cells #[.slice (some ad) n cap] 29)).alloc (.cells #[.int .i64 f, .int .i64 s] 31)) (.cells #[.slice none 0 0] 29)
    simpa [Hid] using this
  have HR : Hid (Rd w (some ad) l) := hr
  clear hl hc hr
  go_enter Try.func19, Try.ntmps19
  go_wp2_with fail
  refine (copyS ad l n cap HL.out hn _ (HR.out.keep HC0.out.2.2 (Nat.le_refl _))).mono ?_
  rintro e w1 ⟨v, rfl, hown1, hb1⟩
  have HC1 : Hid (CLive w w1 (.slice (some ad) n cap) (.int .i64 f) (.int .i64 s)) := HC0.out.keep hb1
  have HZ1 : Hid (_ = _) := row_after HZ0.out hb1 (row_lt HZ0.out)
  have S1 : w.heap.size + 3 ≤ w1.heap.size := row_lt HZ1.out
  obtain ⟨q, c, hv⟩ := own_shape hown1
  subst hv
  have hown2 := own_mono (C := w.heap.size + 3) hown1 (by simp)
  have HK0 : Hid (KLive w (w1.alloc (.cells #[.slice q n c] 29)) (.slice (some ad) n cap) (.int .i64 f) (.int .i64 s) (.slice q n c) w1.heap.size) := ⟨HC1.out.alloc _, (Below.heap_alloc _ _ _ (row_lt HZ1.out)).trans HZ1.out, heap_new w1 _, S1⟩
  have HO0 : Hid ((w1.alloc (.cells #[.slice q n c] 29)).ownsRow (w.heap.size + 3) 3 1 (.slice q n c) n (intsV (clP l f s 0))) := by rw [clP_zero]; exact hown2.alloc _
  have HNE : Hid (∀ g, (Value.slice q n c).ownBlock = some g → g < w1.heap.size) := own_lt hown1
  clear hown1 hown2 hb1 HC0 HZ0 HC1 HZ1
  go_wp2
  go_loopw [6] (fun i wr => ∃ p : Nat, p ≤ n ∧ i = .int .i64 p ∧ Hid (wr.ownsRow (w.heap.size + 3) 3 1 (.slice q n c) n (intsV (clP l f s p))) ∧ Hid (KLive w wr (.slice (some ad) n cap) (.int .i64 f) (.int .i64 s) (.slice q n c) w1.heap.size)) (fun i _ => n - (intOf i).toNat)
  case atStart => exact ⟨0, Nat.zero_le _, rfl, HO0, HK0⟩
  case round =>
    clear HO0 HK0
    obtain ⟨p, hp, rfl, HO, HK⟩ := hrel
    have k1 := row1_cells HK.out.1.1
    have k2 := row2_cells HK.out.1.2.1
    have k3 := row1_cells HK.out.2.1
    have k4 := row1_cells HK.out.2.2.1
    by_cases hlt : (p : Int) < s ∧ (p : Int) < (n : Int)
    · obtain ⟨hlt1, hlt2⟩ := hlt
      go_wp2_with fail
      refine (atS (some ad) n cap f s p hn _).mono ?_
      rintro e w2 ⟨rfl, hb2⟩
      have HK2 : Hid (KLive w w2 (.slice (some ad) n cap) (.int .i64 f) (.int .i64 s) (.slice q n c) w1.heap.size) := HK.out.keep hb2
      have HO2 : Hid (w2.ownsRow (w.heap.size + 3) 3 1 (.slice q n c) n (intsV (clP l f s p))) := own_keep HO.out hb2 (own_lt HO.out)
      clear hb2 HK HO k1 k2 k3 k4
      have k4 := row1_cells HK2.out.2.2.1
      by_cases hpk : p < cutN n f s
      · obtain ⟨f0, f1, _, _⟩ := cutN_in (n := n) (f := f) (s := s) (by omega)
        obtain ⟨fn, rfl⟩ := Int.eq_ofNat_of_zero_le f0
        have hfn : fn + p < n := by simp at f1; omega
        have hat : atP n (fn : Int) s (p : Int) = ((fn + p : Nat) : Int) := by rw [atP_in hpk]; omega
        have HX : Hid ((clP l (fn : Int) s p).set (fn + p) 0 = clP l (fn : Int) s (p + 1)) := by have := clP_succ (l := l) (f := (fn : Int)) (s := s) (p := p) (by rw [HL.out]; exact hpk); simpa [Hid] using this
        have HPL : Hid ((clP l (fn : Int) s p).length = n) := by have := clP_len l (fn : Int) s p; rw [HL.out] at this; exact this
        obtain ⟨g, rfl, hg⟩ := own_addr HO2.out (by omega)
        have hgZ := HNE.out g rfl
        have hc := own_at HO2.out (j := fn + p) (by rw [HPL.out]; exact hfn)
        have HO3 : Hid ((w2.setCell ⟨g, fn + p, none⟩ (.int .i64 0)).ownsRow (w.heap.size + 3) 3 1 (.slice (some ⟨g, 0, none⟩) n c) n (intsV (clP l (fn : Int) s (p + 1)))) := by
          have := own_put (x := 0) HO2.out (j := fn + p) (by rw [HPL.out]; exact hfn)
          rw [HX.out] at this
          exact this
        have HK3 : Hid (KLive w (w2.setCell ⟨g, fn + p, none⟩ (.int .i64 0)) (.slice (some ad) n cap) (.int .i64 (fn : Int)) (.int .i64 s) (.slice (some ⟨g, 0, none⟩) n c) w1.heap.size) := HK2.out.set hg (by omega)
        generalize (clP l (fn : Int) s p)[fn + p]'(by rw [HPL.out]; exact hfn) = old at hc
        rw [hat]
        clear hat f1 HX HPL HO2 HK2
        generalize fn + p = j at hc hfn HO3 HK3 ⊢
        go_wp2
        go_roundw
        case rel => exact ⟨p + 1, by omega, by go_num, HO3, HK3⟩
        case measure => simp [intOf]; omega
      · have hat : atP n f s (p : Int) = -1 := atP_out hpk
        have HO3 : Hid (w2.ownsRow (w.heap.size + 3) 3 1 (.slice q n c) n (intsV (clP l f s (p + 1)))) := by have := HO2.out; rw [clP_out (by rw [HL.out]; omega)] at this; exact this
        rw [hat]
        clear hat HO2
        go_wp2
        go_roundw
        case rel => exact ⟨p + 1, by omega, by go_num, HO3, HK2⟩
        case measure => simp [intOf]; omega
    · have HE : Hid (clP l f s p = clL l f s) := clP_end (by rw [HL.out]; exact cut_done hlt)
      have HO' : Hid (wr.ownsRow (w.heap.size + 3) 3 1 (.slice q n c) n (intsV (clL l f s))) := by have := HO.out; rw [HE.out] at this; exact this
      by_cases hlt1 : (p : Int) < s
      · have hlt2 : ¬ (p : Int) < (n : Int) := fun h => hlt ⟨hlt1, h⟩
        clear hlt HO
        go_wp2
        refine bodyPost_ret (v := .agg #[.slice q n c]) (by simp [results, Try.results19, go_sem, k3]) rfl ⟨_, rfl, ?_, ?_⟩
        · exact own_setOther (own_mono HO'.out (by omega)) (fun g hg => by have := own_ge HO'.out g hg; omega)
        · exact HK.out.1.2.2.setCell (by simp; omega) _
      · clear hlt HO
        go_wp2
        refine bodyPost_ret (v := .agg #[.slice q n c]) (by simp [results, Try.results19, go_sem, k3]) rfl ⟨_, rfl, ?_, ?_⟩
        · exact own_setOther (own_mono HO'.out (by omega)) (fun g hg => by have := own_ge HO'.out g hg; omega)
        · exact HK.out.1.2.2.setCell (by simp; omega) _
end Go.Proofs.Ytelhnoepkfojkaa
