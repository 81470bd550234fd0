/-
  Cells of a region, copies of machines.
-/
import Derived.Test.YtfdhcchakoldpaaKMk
import Derived.Laws.CopyRow
import Derived.Laws.IdiomCopy
namespace Go.Proofs.Ytfdhcchakoldpaa.C
open Go.ChangeShapes Go.WideShapes Go.ChangeAt Go.RowKit Go.PlainAid
set_option linter.unusedVariables false

/-- how many cells of a region there are -/
def cutN (n : Nat) (f s : Int) : Nat := if s < 1 ∨ f < 0 ∨ (n : Int) < f then 0 else (min s ((n : Int) - f)).toNat
theorem cutN_no {n : Nat} {f s : Int} (h : s < 1 ∨ f < 0 ∨ (n : Int) < f) : cutN n f s = 0 := if_pos h
theorem cutN_yes {n : Nat} {f s : Int} (h : ¬ (s < 1 ∨ f < 0 ∨ (n : Int) < f)) : cutN n f s = (min s ((n : Int) - f)).toNat := if_neg h
theorem cutN_le (n : Nat) (f s : Int) : cutN n f s ≤ n := by
  unfold cutN; split <;> omega
theorem cutN_in {n : Nat} {f s : Int} (h : 0 < cutN n f s) : 0 ≤ f ∧ f.toNat + cutN n f s ≤ n ∧ 1 ≤ s ∧ (cutN n f s : Int) ≤ s := by
  unfold cutN at h ⊢; split at h
  · omega
  · rename_i hh; rw [if_neg hh]; omega
set_option maxRecDepth 100000 in
set_option maxHeartbeats 400000 in
theorem cutI (a : Option Addr) (n cap : Nat) (f s : Int) (hn : n ≤ 1048576) (hcap : n ≤ cap) (w : World) :
    Calls Try.prog 196 #[.slice a n cap, .agg #[.int .i64 f, .int .i64 s]] w fun e w' => ∃ v, e = .returned v ∧ (∃ a', v = .slice a' (cutN n f s) (cutN n f s) ∧ (0 < cutN n f s → a' = a.map (·.add f.toNat))) ∧ Below w.heap.size w w' := by
  have HB0 : Hid (Below w.heap.size w (w.alloc (.cells #[.int .i64 f, .int .i64 s] 185))) := (Below.refl _ _).alloc (Nat.le_refl _) _
  have HH : Hid ((w.alloc (.cells #[.int .i64 f, .int .i64 s] 185)).heap[w.heap.size]? = _) := heap_new w _
  by_cases h1 : s < 1
  · have HK : Hid (cutN n f s = 0) := cutN_no (.inl h1)
    go_enter Try.func196, Try.ntmps196
    go_wp2
    go_ret
    exact ⟨_, rfl, ⟨none, by rw [HK.out]; rfl, fun h => by rw [HK.out] at h; omega⟩, HB0.out⟩
  · by_cases h2 : 0 ≤ f ∧ f ≤ (n : Int)
    · obtain ⟨h2a, h2b⟩ := h2
      obtain ⟨fn, rfl⟩ := Int.eq_ofNat_of_zero_le h2a
      have hd : decide ((0 : Int) ≤ (fn : Int) ∧ (fn : Int) ≤ (n : Int)) = true := decide_eq_true ⟨h2a, h2b⟩
      have HC : Hid (cutN n (fn : Int) s = (min s ((n : Int) - fn)).toNat) := cutN_yes (by omega)
      go_enter Try.func196, Try.ntmps196
      go_wp2_with fail
      refine (holdsI 0 n fn true hd _).mono ?_
      rintro e w1 ⟨rfl, hb1⟩
      have HW : Hid (Below w.heap.size w w1) := HB0.out.trans (hb1.mono HB0.out.size)
      have k1 := row2_cells (row_after HH.out hb1 (row_lt HH.out))
      clear hb1 HH HB0 hd
      by_cases h3 : s ≤ (n : Int) - fn
      · obtain ⟨sn, rfl⟩ := Int.eq_ofNat_of_zero_le (show (0 : Int) ≤ s by omega)
        have HK : Hid (cutN n (fn : Int) (sn : Int) = sn) := by have := HC.out; show _ = _; omega
        clear HC
        go_wp2
        go_ret
        exact ⟨_, rfl, ⟨a.map (·.add fn), by rw [HK.out]; show Value.slice _ (fn + sn - fn) (fn + sn - fn) = _; rw [Nat.add_sub_cancel_left], fun _ => by simp⟩, HW.out⟩
      · have HK : Hid (cutN n (fn : Int) s = n - fn) := by have := HC.out; show _ = _; omega
        clear HC
        by_cases h4 : fn < n
        · have h5 : ¬ fn + (n - fn) = fn := by omega
          have h6 : ¬ n - fn = 0 := by omega
          go_wp2
          go_ret
          exact ⟨_, rfl, ⟨a.map (·.add fn), by rw [HK.out]; show Value.slice _ (fn + (n - fn) - fn) (fn + (n - fn) - fn) = _; rw [show fn + (n - fn) - fn = n - fn by omega], fun _ => by simp⟩, HW.out⟩
        · obtain rfl : fn = n := by omega
          have HK2 : Hid (cutN fn (fn : Int) s = 0) := by have := HK.out; show _ = _; omega
          clear HK
          go_wp2
          go_ret
          exact ⟨_, rfl, ⟨a, by rw [HK2.out]; rfl, fun h => by rw [HK2.out] at h; omega⟩, HW.out⟩
    · have HK : Hid (cutN n f s = 0) := cutN_no (by omega)
      have hd : decide ((0 : Int) ≤ f ∧ f ≤ (n : Int)) = false := decide_eq_false h2
      go_enter Try.func196, Try.ntmps196
      go_wp2_with fail
      refine (holdsI 0 n f false hd _).mono ?_
      rintro e w1 ⟨rfl, hb1⟩
      have HW : Hid (Below w.heap.size w w1) := HB0.out.trans (hb1.mono HB0.out.size)
      clear hb1 HH HB0 hd
      go_wp2
      go_ret
      exact ⟨_, rfl, ⟨none, by rw [HK.out]; rfl, fun h => by rw [HK.out] at h; omega⟩, HW.out⟩
/-- copy into a list that has just been made, as long as the one that is copied -/
theorem run_copy_new (w : World) (a : Option Addr) (l : List Int) (n cap : Nat) (hl : l.length = n) (hr : Rd (w.alloc (.cells (madeCells #[.int .i64 0] n) 3)) a l) :
    (Builtin.copy_ #[31, 31] 3 #[.slice (some ⟨w.heap.size, 0, none⟩) n n, .slice a n cap]).run Try.prog (w.alloc (.cells (madeCells #[.int .i64 0] n) 3)) = .ok (.int .i64 n) (w.alloc (.cells (intsV l).toArray 3)) := by
  by_cases h0 : n = 0
  · subst h0
    obtain rfl : l = [] := List.eq_nil_of_length_eq_zero hl
    rw [run_copy_none (P := Try.prog) _ 31 31 3 3 _ _ 0 0 0 cap Try.underlying31 size3 (by simp), show madeCells #[.int .i64 0] 0 = #[] from by simp [madeCells]]
    rfl
  · obtain ⟨g, off, rfl, hc⟩ := hr (by omega)
    have hlen : (intsV l).length = n := by rw [intsV_len, hl]
    rw [run_copy_row (P := Try.prog) _ 31 31 3 3 w.heap.size 0 n n ⟨g, off, none⟩ n cap (madeCells #[.int .i64 0] n) 3 (intsV l) Try.underlying31 size3 (heap_alloc_new w _) (by rw [hlen]; simp) (fun j v hv => by obtain ⟨hj, rfl⟩ := intsV_at hv; rw [add_at]; exact hc j hj) (by rw [hlen]; simp [madeCells]) intsV_one]
    rw [hlen, World.setRow_alloc_new]
    have : List.take 0 (madeCells #[.int .i64 0] n).toList ++ intsV l ++ List.drop (0 + n) (madeCells #[.int .i64 0] n).toList = intsV l := by
      simp [madeCells]
    rw [this]
    rfl
set_option maxRecDepth 100000 in
set_option maxHeartbeats 400000 in
theorem copyI (a : Option Addr) (l : List Int) (n cap : Nat) (hl : l.length = n) (hn : n ≤ 1048576) (w : World) (hr : Rd w a l) :
    Calls Try.prog 154 #[.slice a n cap] w fun e w' => e = .returned (.slice (some ⟨w.heap.size, 0, none⟩) n n) ∧ RowAt w' w.heap.size l ∧ Below w.heap.size w w' := by
  have hcp := run_copy_new w a l n cap hl (hr.keep ((Below.refl w.heap.size w).alloc (Nat.le_refl _) _) (Nat.le_refl _))
  have hmk := run_make_row' (P := Try.prog) 31 3 (.int .i64 0) 8 Try.underlying31 info3 rfl .i64 .i64 n (by omega) (by omega)
  clear hr hl
  go_enter Try.func154, Try.ntmps154
  go_wp2
  go_ret
  exact ⟨rfl, heap_alloc_new w _, (Below.refl w.heap.size w).alloc (Nat.le_refl _) _⟩
/-- the cells of a region that there are -/
def ceL (l : List Int) (f s : Int) : List Int := (l.drop f.toNat).take (cutN l.length f s)
theorem arena_start (w : World) (u x y : Value) (t r : TypeId) :
    ((w.alloc (.cells #[u] t)).alloc (.cells #[x, y] r)).heap[w.heap.size]? = some (.cells #[u] t) ∧ ((w.alloc (.cells #[u] t)).alloc (.cells #[x, y] r)).heap[w.heap.size + 1]? = some (.cells #[x, y] r) ∧ Below w.heap.size w ((w.alloc (.cells #[u] t)).alloc (.cells #[x, y] r)) := by
  refine ⟨(Below.heap_alloc _ _ _ (by simp)).trans (heap_new w _), ?_, ((Below.refl _ _).alloc (Nat.le_refl _) _).alloc (by simp) _⟩
  have := heap_new (w.alloc (.cells #[u] t)) (.cells #[x, y] r)
  simpa using this
theorem ceL_len (l : List Int) (f s : Int) : (ceL l f s).length = cutN l.length f s := by
  unfold ceL
  by_cases h : 0 < cutN l.length f s
  · have := cutN_in h
    simp; omega
  · have : cutN l.length f s = 0 := by omega
    simp [this]
theorem rd_cut {w : World} {a a' : Option Addr} {l : List Int} {f s : Int} (hr : Rd w a l) (ha : 0 < cutN l.length f s → a' = a.map (·.add f.toNat)) : Rd w a' (ceL l f s) := by
  intro h0
  have hl := ceL_len l f s
  have hk : 0 < cutN l.length f s := by omega
  obtain ⟨f0, f1, _, _⟩ := cutN_in hk
  obtain ⟨g, off, rfl, hc⟩ := hr (by omega)
  refine ⟨g, off + f.toNat, by rw [ha hk]; simp [add_at], fun j hj => ?_⟩
  have h1 : f.toNat + j < l.length := by omega
  have := hc (f.toNat + j) h1
  rw [← Nat.add_assoc] at this
  rw [this]
  simp [ceL]
set_option maxRecDepth 100000 in
set_option maxHeartbeats 400000 in
theorem cellsI (a : Option Addr) (l : List Int) (n cap : Nat) (f s : Int) (hl : l.length = n) (hn : n ≤ 1048576) (hcap : n ≤ cap) (w : World) (hr : Rd w a l) :
    Calls Try.prog 152 #[.agg #[.slice a n cap], .agg #[.int .i64 f, .int .i64 s]] w fun e w' => ∃ g, e = .returned (.slice (some ⟨g, 0, none⟩) (cutN n f s) (cutN n f s)) ∧ w.heap.size ≤ g ∧ RowAt w' g (ceL l f s) ∧ Below w.heap.size w w' := by
  obtain ⟨hA, hR, hW⟩ := arena_start w (.slice a n cap) (.int .i64 f) (.int .i64 s) 33 185
  have HW : Hid (Below _ _ _) := hW
  have HRd : Hid (Rd w a l) := hr
  have HL : Hid (l.length = n) := hl
  clear hA hR hW hr hl
  go_enter Try.func152, Try.ntmps152
  go_wp2_with fail
  refine (cutI a n cap f s hn hcap _).mono ?_
  rintro e w1 ⟨v, rfl, ⟨a', rfl, ha⟩, hb1⟩
  have HW1 : Hid (Below w.heap.size w w1) := HW.out.trans (hb1.mono HW.out.size)
  have HRd1 : Hid (Rd w1 a' (ceL l f s)) := rd_cut (HRd.out.keep HW1.out (Nat.le_refl _)) (by rw [HL.out]; exact ha)
  have HLE : Hid ((ceL l f s).length = cutN n f s) := by have := ceL_len l f s; rw [HL.out] at this; exact this
  have HKN : Hid (cutN n f s ≤ 1048576) := by have := cutN_le n f s; show _ ≤ _; omega
  clear hb1 HW ha HRd
  obtain ⟨k, HK⟩ : ∃ k, Hid (cutN n f s = k) := ⟨_, rfl⟩
  rw [HK.out] at HLE HKN ⊢
  go_wp2_with fail
  refine (copyI a' (ceL l f s) k k HLE.out HKN.out _ HRd1.out).mono ?_
  rintro e w2 ⟨rfl, hrow, hb2⟩
  have HROW : Hid (RowAt w2 w1.heap.size (ceL l f s)) := hrow
  have HW2 : Hid (Below w.heap.size w w2) := HW1.out.trans (hb2.mono HW1.out.size)
  have HS : Hid (w.heap.size ≤ w1.heap.size) := HW1.out.size
  clear hrow hb2 HW1
  go_wp2
  go_ret
  exact ⟨w1.heap.size, by rw [HK.out]; rfl, HS.out, HROW.out, HW2.out⟩
/-- where the cell at of a region lies, -1 where there is none -/
def atP (n : Nat) (f s p : Int) : Int := if 0 ≤ p ∧ p < (cutN n f s : Int) then f + p else -1
theorem atP_yes {n : Nat} {f s p : Int} (h0 : 0 ≤ p) (h1 : p < s) (h2 : 0 ≤ f) (h3 : f ≤ (n : Int) - 1) (h4 : p < (n : Int) - f) : atP n f s p = f + p := by
  have hc := cutN_yes (n := n) (f := f) (s := s) (by omega)
  unfold atP
  rw [hc, if_pos (by omega)]
theorem atP_no {n : Nat} {f s p : Int} (h : ¬ (0 ≤ p ∧ p < s ∧ 0 ≤ f ∧ f ≤ (n : Int) - 1 ∧ p < (n : Int) - f)) : atP n f s p = -1 := by
  unfold atP
  by_cases hc : s < 1 ∨ f < 0 ∨ (n : Int) < f
  · rw [cutN_no hc, if_neg (by omega)]
  · rw [cutN_yes hc, if_neg (by omega)]
set_option maxRecDepth 100000 in
set_option maxHeartbeats 400000 in
theorem atS (a : Option Addr) (n cap : Nat) (f s p : Int) (hn : n ≤ 1048576) (w : World) :
    Calls Try.prog 150 #[.agg #[.slice a n cap], .agg #[.int .i64 f, .int .i64 s], .int .i64 p] w fun e w' => e = .returned (.int .i64 (atP n f s p)) ∧ Below w.heap.size w w' := by
  obtain ⟨hA, hR, hW⟩ := arena_start w (.slice a n cap) (.int .i64 f) (.int .i64 s) 33 185
  have HW : Hid (Below _ _ _) := hW
  clear hA hR hW
  by_cases h0 : 0 ≤ p
  · by_cases h1 : p < s
    · by_cases h2 : 0 ≤ f ∧ f ≤ (n : Int) - 1
      · have hd : decide ((0 : Int) ≤ f ∧ f ≤ (n : Int) - 1) = true := decide_eq_true h2
        obtain ⟨h2a, h2b⟩ := h2
        by_cases h3 : p < (n : Int) - f
        · have HX : Hid (atP n f s p = f + p) := atP_yes h0 h1 h2a h2b h3
          go_enter Try.func150, Try.ntmps150
          go_wp2_with fail
          refine (inS 0 ((n : Int) - 1) f true hd _).mono ?_
          rintro e w1 ⟨rfl, rfl⟩
          clear hd
          go_wp2
          go_ret
          exact ⟨by rw [HX.out]; rfl, HW.out⟩
        · have HX : Hid (atP n f s p = -1) := atP_no (by omega)
          go_enter Try.func150, Try.ntmps150
          go_wp2_with fail
          refine (inS 0 ((n : Int) - 1) f true hd _).mono ?_
          rintro e w1 ⟨rfl, rfl⟩
          clear hd
          go_wp2
          go_ret
          exact ⟨by rw [HX.out]; rfl, HW.out⟩
      · have hd : decide ((0 : Int) ≤ f ∧ f ≤ (n : Int) - 1) = false := decide_eq_false h2
        have HX : Hid (atP n f s p = -1) := atP_no (by omega)
        go_enter Try.func150, Try.ntmps150
        go_wp2_with fail
        refine (inS 0 ((n : Int) - 1) f false hd _).mono ?_
        rintro e w1 ⟨rfl, rfl⟩
        clear hd
        go_wp2
        go_ret
        exact ⟨by rw [HX.out]; rfl, HW.out⟩
    · have HX : Hid (atP n f s p = -1) := atP_no (by omega)
      go_enter Try.func150, Try.ntmps150
      go_wp2
      go_ret
      exact ⟨by rw [HX.out]; rfl, HW.out⟩
  · have HX : Hid (atP n f s p = -1) := atP_no (by omega)
    go_enter Try.func150, Try.ntmps150
    go_wp2
    go_ret
    exact ⟨by rw [HX.out]; rfl, HW.out⟩
theorem own_built3 (w : World) (B : Nat) (hB : B ≤ w.heap.size) : (w.alloc (.cells #[] 3)).ownsRow B 3 1 (.slice (some ⟨w.heap.size, 0, none⟩) 0 0) 0 [] :=
  ⟨rfl, Or.inr ⟨_, 0, #[], rfl, hB, by show (w.heap.push _)[w.heap.size]? = _; simp, Nat.le_refl _, by decide, rfl, rfl⟩⟩
theorem own_shape {w : World} {B e z n : Nat} {v : Value} {xs : List Value} (h : w.ownsRow B e z v n xs) : ∃ a cap, v = .slice a n cap := by
  rcases h.2 with ⟨rfl, e⟩ | ⟨g, cap, cur, rfl, _⟩
  · exact ⟨none, 0, by rw [e]⟩
  · exact ⟨_, cap, rfl⟩
theorem own_setOther {w : World} {B e z n k i : Nat} {v x : Value} {xs : List Value} (h : w.ownsRow B e z v n xs) (hk : ∀ g, v.ownBlock = some g → g ≠ k) : (w.setCell ⟨k, i, none⟩ x).ownsRow B e z v n xs := by
  refine ⟨h.1, ?_⟩
  rcases h.2 with h2 | ⟨g, cap, cur, rfl, hg, hh, h3⟩
  · exact .inl h2
  · exact .inr ⟨g, cap, cur, rfl, hg, set_other hh (hk g rfl), h3⟩
theorem ceL_take_succ {l : List Int} {f s : Int} {p : Nat} (h : p < cutN l.length f s) (hf : f.toNat + p < l.length) : (ceL l f s).take (p + 1) = (ceL l f s).take p ++ [l[f.toNat + p]] := by
  have hl := ceL_len l f s
  rw [List.take_succ_eq_append_getElem (by omega)]
  congr 1
  simp [ceL]
theorem ceL_take_end {l : List Int} {f s : Int} {p : Nat} (h : cutN l.length f s ≤ p) : (ceL l f s).take p = ceL l f s :=
  List.take_of_length_le (by rw [ceL_len]; exact h)
theorem cut_done {n p : Nat} {f s : Int} (h : ¬ ((p : Int) < s ∧ (p : Int) < (n : Int))) : cutN n f s ≤ p := by
  have := cutN_le n f s
  by_cases h0 : 0 < cutN n f s
  · have := cutN_in h0
    omega
  · omega
theorem atP_in {n p : Nat} {f s : Int} (h : p < cutN n f s) : atP n f s (p : Int) = f + p := if_pos ⟨by omega, by omega⟩
theorem atP_out {n p : Nat} {f s : Int} (h : ¬ p < cutN n f s) : atP n f s (p : Int) = -1 := if_neg (by omega)
/-- what stands while cells are gathered -/
def CLive (w W : World) (u x y : Value) : Prop := W.heap[w.heap.size]? = some (.cells #[u] 33) ∧ W.heap[w.heap.size + 1]? = some (.cells #[x, y] 185) ∧ Below w.heap.size w W
theorem clive_start (w : World) (u x y : Value) : CLive w ((w.alloc (.cells #[u] 33)).alloc (.cells #[x, y] 185)) u x y := arena_start w u x y _ _
theorem CLive.alloc {w W : World} {u x y : Value} (h : CLive w W u x y) (o : Obj) : CLive w (W.alloc o) u x y :=
  ⟨(Below.heap_alloc _ _ _ (row_lt h.1)).trans h.1, (Below.heap_alloc _ _ _ (row_lt h.2.1)).trans h.2.1, h.2.2.alloc h.2.2.size _⟩
theorem CLive.keep {w W W' : World} {u x y : Value} (h : CLive w W u x y) (hb : Below W.heap.size W W') : CLive w W' u x y :=
  ⟨row_after h.1 hb (row_lt h.1), row_after h.2.1 hb (row_lt h.2.1), h.2.2.trans (hb.mono h.2.2.size)⟩
theorem CLive.grown {w W W' : World} {u x y : Value} {r : Option Nat} (h : CLive w W u x y) (hg : W.grownBy W' r) (hr : ∀ g, r = some g → w.heap.size + 2 ≤ g) : CLive w W' u x y :=
  ⟨grown_row hg h.1 (fun e => by have := hr _ e; omega), grown_row hg h.2.1 (fun e => by have := hr _ e; omega), h.2.2.grown hg h.2.2.size (fun g e => by have := hr g e; omega)⟩
theorem CLive.lt {w W : World} {u x y : Value} (h : CLive w W u x y) : w.heap.size + 2 ≤ W.heap.size := row_lt h.2.1
set_option maxRecDepth 100000 in
set_option maxHeartbeats 1000000 in
theorem cellsS (a : Option Addr) (l : List Int) (n cap : Nat) (f s : Int) (hl : l.length = n) (hn : n ≤ 1048576) (w : World) (hr : Rd w a l) :
    Calls Try.prog 94 #[.agg #[.slice a n cap], .agg #[.int .i64 f, .int .i64 s]] w fun e w' => ∃ v, e = .returned v ∧ w'.ownsRow w.heap.size 3 1 v (cutN n f s) (intsV (ceL l f s)) ∧ Below w.heap.size w w' := by
  obtain ⟨i0, hi, hz0, hz1, hz2⟩ := info_parts info3
  have HL : Hid (l.length = n) := hl
  have HC0 : Hid (CLive w _ _ _ _) := (clive_start w (.slice a n cap) (.int .i64 f) (.int .i64 s)).alloc (.cells #[] 3)
  have how : (((w.alloc (.cells #[.slice a n cap] 33)).alloc (.cells #[.int .i64 f, .int .i64 s] 185)).alloc (.cells #[] 3)).ownsRow (w.heap.size + 2) 3 1 (.slice (some ⟨w.heap.size + 1 + 1, 0, none⟩) 0 0) ((ceL l f s).take 0).length (intsV ((ceL l f s).take 0)) := by
    have := own_built3 ((w.alloc (.cells #[.slice a n cap] 33)).alloc (.cells #[.int .i64 f, .int .i64 s] 185)) (w.heap.size + 2) (by simp)
    simpa [intsV] using this
  have HOW : Hid (World.ownsRow _ _ _ _ _ _ _) := how
  clear how hl
  by_cases hn0 : 0 < n
  · obtain ⟨g, off, rfl, hc⟩ := hr (by have := HL.out; omega)
    have HR : Hid (∀ j (h : j < l.length), w.cell? ⟨g, off + j, none⟩ = some (.int .i64 l[j])) := hc
    clear hr hc
    go_enter Try.func94, Try.ntmps94
    go_wp2
    go_loopw [5, 6] (fun v i wr => ∃ (p c : Nat) (q : Option Addr), p ≤ n ∧ i = .int .i64 p ∧ v = .slice q ((ceL l f s).take p).length c ∧ Hid (wr.ownsRow (w.heap.size + 2) 3 1 (.slice q ((ceL l f s).take p).length c) ((ceL l f s).take p).length (intsV ((ceL l f s).take p))) ∧ Hid (CLive w wr (.slice (some ⟨g, off, none⟩) n cap) (.int .i64 f) (.int .i64 s))) (fun _ i _ => n - (intOf i).toNat)
    case atStart => exact ⟨0, 0, some ⟨w.heap.size + 1 + 1, 0, none⟩, Nat.zero_le _, rfl, rfl, HOW, HC0⟩
    case round =>
      clear HOW HC0
      obtain ⟨p, c, q, hp, rfl, rfl, HO, HC⟩ := hrel
      have k1 := row1_cells HC.out.1
      have k2 := row2_cells HC.out.2.1
      have HM : Hid (((ceL l f s).take p).length ≤ p) := by show _ ≤ _; simp; omega
      by_cases hlt : (p : Int) < s ∧ (p : Int) < (n : Int)
      · obtain ⟨hlt1, hlt2⟩ := hlt
        obtain ⟨m, HMe⟩ : ∃ m, Hid (((ceL l f s).take p).length = m) := ⟨_, rfl⟩
        rw [HMe.out] at HO HM ⊢
        go_wp2_with fail
        refine (atS (some ⟨g, off, none⟩) n cap f s p hn _).mono ?_
        rintro e w1 ⟨rfl, hb1⟩
        have HC1 : Hid (CLive w w1 (.slice (some ⟨g, off, none⟩) n cap) (.int .i64 f) (.int .i64 s)) := HC.out.keep hb1
        have hown1 := own_keep HO.out hb1 (own_lt HO.out)
        have HB1 := hb1.size
        clear hb1 HC k1 k2 HO
        have k1 := row1_cells HC1.out.1
        by_cases hpk : p < cutN n f s
        · obtain ⟨f0, f1, _, _⟩ := cutN_in (n := n) (f := f) (s := s) (by omega)
          obtain ⟨fn, rfl⟩ := Int.eq_ofNat_of_zero_le f0
          have hfn : fn + p < l.length := by have := HL.out; simp at f1; omega
          have hcell := (HC1.out.2.2.cell (p := ⟨g, off + (fn + p), none⟩) (World.block_lt_of_cell? w ⟨g, off + (fn + p), none⟩ (HR.out _ hfn))).trans (HR.out (fn + p) hfn)
          have HX : Hid ((ceL l (fn : Int) s).take (p + 1) = (ceL l (fn : Int) s).take p ++ [l[fn + p]]) := ceL_take_succ (by rw [HL.out]; exact hpk) (by simpa using hfn)
          have hat : atP n (fn : Int) s (p : Int) = ((fn + p : Nat) : Int) := by rw [atP_in hpk]; omega
          have hfn2 : fn + p < n := by have := HL.out; omega
          rw [hat]
          clear hat f1
          generalize l[fn + p] = x at hcell HX
          generalize fn + p = j at hcell hfn hfn2 ⊢
          go_wp2_with (at_builtin; refine wpList_append_own _ rfl _ _ 31 rfl (w.heap.size + 2) 3 i0 (.int .i64 0) 1 8 Try.underlying31 hi hz0 hz1 hz2 rfl (by decide) _ _ _ rfl (hown1.alloc _) ⟨w1.heap.size, 0, none⟩ 1 1 [.int .i64 x] rfl rfl ?c1 ?c2 ?c3 ?c4 ?c5 ?_)
          case c1 => exact one_cell3 w1 _ _ rfl
          case c2 => intro u hu; simp at hu; subst hu; rfl
          case c3 => have := HM.out; unfold maxLen; omega
          case c4 => have := HM.out; omega
          case c5 => have := HC1.out.lt; simp; omega
          intro v' w5 hown5 hgrow _
          have HC5 : Hid (CLive w w5 (.slice (some ⟨g, off, none⟩) n cap) (.int .i64 (fn : Int)) (.int .i64 s)) := (HC1.out.alloc _).grown hgrow (fun g' e => own_ge hown1 g' e)
          have HLE : Hid (((ceL l (fn : Int) s).take (p + 1)).length = m + 1) := by have := HMe.out; rw [HX.out]; simp only [List.length_append, this]; rfl
          obtain ⟨q', c', hv⟩ := own_shape hown5
          subst hv
          have HO5 : Hid (w5.ownsRow (w.heap.size + 2) 3 1 (.slice q' ((ceL l (fn : Int) s).take (p + 1)).length c') ((ceL l (fn : Int) s).take (p + 1)).length (intsV ((ceL l (fn : Int) s).take (p + 1)))) := by
            rw [HLE.out, HX.out, show intsV ((ceL l (fn : Int) s).take p ++ [x]) = intsV ((ceL l (fn : Int) s).take p) ++ [.int .i64 x] by simp [intsV]]
            exact hown5
          clear hown5 hgrow hown1 HC1 k1
          go_wp2
          go_roundw
          case rel => exact ⟨p + 1, c', q', by omega, by go_num, by rw [HLE.out], HO5, HC5⟩
          case measure => simp [intOf]; omega
        · have hat : atP n f s (p : Int) = -1 := atP_out hpk
          have HE : Hid ((ceL l f s).take p = (ceL l f s).take (p + 1)) := by have h1 := ceL_take_end (l := l) (f := f) (s := s) (p := p) (by rw [HL.out]; omega); have h2 := ceL_take_end (l := l) (f := f) (s := s) (p := p + 1) (by rw [HL.out]; omega); show _ = _; rw [h1, h2]
          have HO1 : Hid (w1.ownsRow (w.heap.size + 2) 3 1 (.slice q m c) m (intsV ((ceL l f s).take (p + 1)))) := by have := hown1; rw [HE.out] at this; exact this
          have HLE : Hid (((ceL l f s).take (p + 1)).length = m) := by have := HMe.out; rw [HE.out] at this; exact this
          rw [hat]
          clear hat hown1
          go_wp2
          go_roundw
          case rel => exact ⟨p + 1, c, q, by omega, by go_num, by rw [HLE.out], (by rw [HLE.out]; exact HO1), HC1⟩
          case measure => simp [intOf]; omega
      · have HE : Hid ((ceL l f s).take p = ceL l f s) := ceL_take_end (by rw [HL.out]; exact cut_done hlt)
        have HK : Hid ((ceL l f s).length = cutN n f s) := by have := ceL_len l f s; rw [HL.out] at this; exact this
        have HO' : Hid (wr.ownsRow (w.heap.size + 2) 3 1 (.slice q (cutN n f s) c) (cutN n f s) (intsV (ceL l f s))) := by have := HO.out; rw [HE.out, HK.out] at this; exact this
        have hlen : ((ceL l f s).take p).length = cutN n f s := by rw [HE.out, HK.out]
        rw [hlen]
        clear hlen
        by_cases hlt1 : (p : Int) < s
        · have hlt2 : ¬ (p : Int) < (n : Int) := fun h => hlt ⟨hlt1, h⟩
          clear hlt HO
          go_wp2
          go_ret
          exact ⟨_, rfl, own_mono HO'.out (by omega), HC.out.2.2⟩
        · clear hlt HO
          go_wp2
          go_ret
          exact ⟨_, rfl, own_mono HO'.out (by omega), HC.out.2.2⟩
  · obtain rfl : n = 0 := by omega
    have HE : Hid (cutN 0 f s = 0) := by have := cutN_le 0 f s; show _ = _; omega
    have HL0 : Hid (ceL l f s = []) := List.eq_nil_of_length_eq_zero (by rw [ceL_len, HL.out]; exact HE.out)
    rw [HL0.out] at HOW
    have hc := HC0.out.2.2
    have HW : Hid (Below _ _ _) := hc
    clear hn0 hr hc
    by_cases hs : 0 < s
    · go_enter Try.func94, Try.ntmps94
      go_wp2
      go_rounds 1
      go_ret
      exact ⟨_, rfl, by rw [HE.out, HL0.out]; exact own_mono HOW.out (by omega), HW.out⟩
    · go_enter Try.func94, Try.ntmps94
      go_wp2
      go_rounds 1
      go_ret
      exact ⟨_, rfl, by rw [HE.out, HL0.out]; exact own_mono HOW.out (by omega), HW.out⟩
theorem own_grown {w w' : World} {B C e z n : Nat} {v : Value} {xs : List Value} (h : w.ownsRow B e z v n xs) (hg : w.grownBy w' (some C)) (hne : ∀ g, v.ownBlock = some g → g ≠ C) : w'.ownsRow B e z v n xs :=
  h.kept hg (by
    cases hv : v.ownBlock with
    | none => exact .inl rfl
    | some g => exact .inr (fun e => hne g hv (by cases e; rfl)))
theorem own_on {w w' : World} {B e z n : Nat} {v : Value} {xs : List Value} (h : w.ownsRow B e z v n xs) (hb : Below w.heap.size w w') : w'.ownsRow B e z v n xs := own_keep h hb (own_lt h)
/-- a list of numbers that a call owns, with room behind it or none -/
def OwnN (w : World) (B g n c : Nat) (l : List Int) : Prop := w.ownsRow B 3 1 (.slice (some ⟨g, 0, none⟩) n c) n (intsV l)
theorem OwnN.ge {w : World} {B g n c : Nat} {l : List Int} (h : OwnN w B g n c l) : B ≤ g := own_ge h g rfl
theorem OwnN.lt {w : World} {B g n c : Nat} {l : List Int} (h : OwnN w B g n c l) : g < w.heap.size := Go.Proofs.Ytfdhcchakoldpaa.own_lt h g rfl
theorem OwnN.on {w w' : World} {B g n c : Nat} {l : List Int} (h : OwnN w B g n c l) (hb : Below w.heap.size w w') : OwnN w' B g n c l := own_on h hb
theorem OwnN.mono {w : World} {B C g n c : Nat} {l : List Int} (h : OwnN w B g n c l) (hC : C ≤ B) : OwnN w C g n c l := own_mono h hC
theorem OwnN.grown {w w' : World} {B g n c C : Nat} {l : List Int} (h : OwnN w B g n c l) (hg : w.grownBy w' (some C)) (hne : C ≠ g) : OwnN w' B g n c l :=
  own_grown h hg (fun k hk => by simp [Value.ownBlock] at hk; omega)
theorem OwnN.alloc {w : World} {B g n c : Nat} {l : List Int} (h : OwnN w B g n c l) (o : Obj) : OwnN (w.alloc o) B g n c l := h.on ((Below.refl _ _).alloc (Nat.le_refl _) _)
/-- append onto a list of numbers that the call owns -/
theorem run_appN (W : World) (ty : TypeId) (B g n c : Nat) (l : List Int) (q : Option Addr) (m cx : Nat) (l' : List Int) (hown : OwnN W B g n c l) (hl : l'.length = m) (hq : q = none → m = 0 ∧ cx = 0) (hr : Rd W q l') (hn : n + m ≤ 3000000) (hB : B ≤ W.heap.size) :
    ∃ g' c' w', (Builtin.append_ #[31, 31] ty #[.slice (some ⟨g, 0, none⟩) n c, .slice q m cx]).run Try.prog W = .ok (.slice (some ⟨g', 0, none⟩) (n + m) c') w' ∧ OwnN w' B g' (n + m) c' (l ++ l') ∧ W.grownBy w' (some g) ∧ (g' = g ∨ g' = W.heap.size) := by
  obtain ⟨i0, hi, hz0, hz1, hz2⟩ := info_parts info3
  cases q with
  | none =>
    obtain ⟨rfl, rfl⟩ := hq rfl
    refine ⟨g, c, W, ?_, ?_, World.grownBy.refl _ _, .inl rfl⟩
    · exact run_append_owned_none (P := Try.prog) (w := W) B 31 ty 3 i0 1 Try.underlying31 hi _ n _ hown
    · rw [List.length_eq_zero_iff.1 hl, List.append_nil]; exact hown
  | some ad =>
    obtain ⟨v', w', hrun, h2, h3, h4, h5⟩ := run_append_own_at (P := Try.prog) W B 31 ty 3 i0 (.int .i64 0) 1 8 Try.underlying31 hi hz0 hz1 hz2 rfl (by decide) _ n _ hown ad m cx (intsV l') (by rw [intsV_len, hl]; simp) (fun j u hu => by
      obtain ⟨hj, rfl⟩ := intsV_at hu
      obtain ⟨b, off, ha, hc⟩ := hr (by omega)
      cases ha
      rw [add_at]
      exact hc j hj) intsV_one (by unfold maxLen; omega) (by omega) hB
    rcases h2.2 with ⟨hv, _⟩ | ⟨g', cap, cur, rfl, _⟩
    · have := h4.1 hv; simp at this
    · refine ⟨g', cap, w', hrun, ?_, h3, ?_⟩
      · unfold OwnN
        rw [show intsV (l ++ l') = intsV l ++ intsV l' by simp [intsV]]
        exact h2
      · simp [Value.ownBlock] at h5
        exact h5
theorem wpN {o : Oper} {a : Act} {K : Act → World → Prop} {Q : Exit → Act → World → Prop} (W : World) (s x : Operand)
    (ho : o.op = .call { callee := .builtin .append, args := #[s, x], argTypes := #[31, 31] }) (B g n c : Nat) (l : List Int) (q : Option Addr) (m cx : Nat) (l' : List Int)
    (hs : a.eval s = .slice (some ⟨g, 0, none⟩) n c) (hx : a.eval x = .slice q m cx) (hown : OwnN W B g n c l) (hl : l'.length = m) (hq : q = none → m = 0 ∧ cx = 0) (hr : Rd W q l') (hn : n + m ≤ 3000000) (hB : B ≤ W.heap.size)
    (h : ∀ g' c' w', OwnN w' B g' (n + m) c' (l ++ l') → W.grownBy w' (some g) → (g' = g ∨ g' = W.heap.size) → K (a.put o.dst (.slice (some ⟨g', 0, none⟩) (n + m) c')) w') : o.wp Try.prog a W K Q := by
  obtain ⟨g', c', w', hrun, h2, h3, h4⟩ := run_appN W o.type B g n c l q m cx l' hown hl hq hr hn hB
  unfold Oper.wp execOp
  simp only [ho, resolve, invoke, builtin, Sem.run_bind, Sem.run_pure, Result.andThen_ok, List.map_toArray, List.map_cons, List.map_nil, hs, hx, hrun]
  exact h g' c' w' h2 h3 h4
/-- .. in a region that draws its order -/
theorem anyN {ops : Array Oper} {o : Oper} {a : Act} {K : Act → World → Prop} {Q : Exit → Act → World → Prop} {E : Prop} {W : World} (hw : Region.wanted o (yielded ops a.tmps) = true) (s x : Operand)
    (ho : o.op = .call { callee := .builtin .append, args := #[s, x], argTypes := #[31, 31] }) (B g n c : Nat) (l : List Int) (q : Option Addr) (m cx : Nat) (l' : List Int)
    (hs : a.eval s = .slice (some ⟨g, 0, none⟩) n c) (hx : a.eval x = .slice q m cx) (hown : OwnN W B g n c l) (hl : l'.length = m) (hq : q = none → m = 0 ∧ cx = 0) (hr : Rd W q l') (hn : n + m ≤ 3000000) (hB : B ≤ W.heap.size)
    (h : ∀ g' c' w', OwnN w' B g' (n + m) c' (l ++ l') → W.grownBy w' (some g) → (g' = g ∨ g' = W.heap.size) → K (a.put o.dst (.slice (some ⟨g', 0, none⟩) (n + m) c')) w') :
    if Region.wanted o (yielded ops a.tmps) = true then Oper.wp Try.prog o a W K Q else E := by
  rw [if_pos hw]
  exact wpN W s x ho B g n c l q m cx l' hs hx hown hl hq hr hn hB h
theorem box2b (w : World) (x y x' y' : Value) (t r : TypeId) :
    ((w.alloc (.cells #[x, y] t)).alloc (.cells #[x', y'] r)).heap[w.heap.size]? = some (.cells #[x, y] t) ∧ ((w.alloc (.cells #[x, y] t)).alloc (.cells #[x', y'] r)).heap[w.heap.size + 1]? = some (.cells #[x', y'] r) ∧ Below w.heap.size w ((w.alloc (.cells #[x, y] t)).alloc (.cells #[x', y'] r)) ∧ ((w.alloc (.cells #[x, y] t)).alloc (.cells #[x', y'] r)).heap.size = w.heap.size + 2 := by
  have h0 := heap_new w (.cells #[x, y] t)
  have h1 := heap_new (w.alloc (.cells #[x, y] t)) (.cells #[x', y'] r)
  refine ⟨(Below.heap_alloc _ _ _ (by simp)).trans h0, by simpa using h1, ((Below.refl _ _).alloc (Nat.le_refl _) _).alloc (by simp) _, by simp⟩
set_option maxRecDepth 100000 in
set_option maxHeartbeats 400000 in
theorem copyCI (a : Option Addr) (pc : Int) (l : List Int) (n cap : Nat) (hl : l.length = n) (hn : n ≤ 1048576) (w : World) (hr : Rd w a l) :
    Calls Try.prog 197 #[.agg #[.int .i64 pc, .slice a n cap]] w fun e w' => e = .returned (.agg #[.int .i64 pc, .slice (some ⟨w.heap.size + 2, 0, none⟩) n n]) ∧ RowAt w' (w.heap.size + 2) l ∧ Below w.heap.size w w' := by
  obtain ⟨hA, hZ, hW, hS⟩ := box2b w (.int .i64 pc) (.slice a n cap) (.int .i64 0) (.slice none 0 0) 98 98
  have HA : Hid (_ = _) := hA
  have HZ : Hid (_ = _) := hZ
  have HW : Hid (Below _ _ _) := hW
  have HS : Hid (_ = _) := hS
  have HR : Hid (Rd w a l) := hr
  have HL : Hid (l.length = n) := hl
  clear hA hZ hW hS hr hl
  go_enter Try.func197, Try.ntmps197
  go_wp2_with fail
  refine (copyI a l n cap HL.out hn _ (HR.out.keep HW.out (Nat.le_refl _))).mono ?_
  rintro e w1 ⟨rfl, hrow, hb1⟩
  rw [HS.out] at hrow hb1 ⊢
  have kx := row2_cells (row_after HA.out hb1 (by omega))
  have ky := row2_cells (row_after HZ.out hb1 (by omega))
  have HROW : Hid (RowAt w1 (w.heap.size + 2) l) := hrow
  have HW1 : Hid (Below w.heap.size w w1) := HW.out.trans (hb1.mono (by omega))
  clear hrow hb1 HA HZ HW HS HR
  go_wp2
  refine bodyPost_ret (v := .agg #[.int .i64 pc, .slice (some ⟨w.heap.size + 2, 0, none⟩) n n]) (by simp [results, Try.results197, go_sem, ky]) rfl ⟨rfl, ?_, ?_⟩
  · unfold RowAt
    rw [Below.heap_setCell _ _ _ _ (by simp), Below.heap_setCell _ _ _ _ (by simp), Below.heap_setCell _ _ _ _ (by simp)]
    exact HROW.out
  · exact ((HW1.out.setCell (by simp) _).setCell (by simp) _).setCell (by simp) _
/-- what the specification's copy holds while its region draws -/
theorem l6_set {w W : World} {x y : Value} {k i : Nat} {z : Value} (hk : w.heap.size < k) (h : W.cell? ⟨w.heap.size, 0, none⟩ = some x ∧ W.cell? ⟨w.heap.size, 1, none⟩ = some y ∧ Below w.heap.size w W) :
    (W.setCell ⟨k, i, none⟩ z).cell? ⟨w.heap.size, 0, none⟩ = some x ∧ (W.setCell ⟨k, i, none⟩ z).cell? ⟨w.heap.size, 1, none⟩ = some y ∧ Below w.heap.size w (W.setCell ⟨k, i, none⟩ z) := by
  refine ⟨?_, ?_, h.2.2.setCell (by simp; omega) _⟩
  · rw [World.cell?_of_block (w := W) (Below.heap_setCell _ _ _ _ (by simp; omega))]; exact h.1
  · rw [World.cell?_of_block (w := W) (Below.heap_setCell _ _ _ _ (by simp; omega))]; exact h.2.1
theorem l6_grown {w W W' : World} {x y : Value} {r : Nat} (h : W.cell? ⟨w.heap.size, 0, none⟩ = some x ∧ W.cell? ⟨w.heap.size, 1, none⟩ = some y ∧ Below w.heap.size w W) (hg : W.grownBy W' (some r)) (hr : w.heap.size < r) :
    W'.cell? ⟨w.heap.size, 0, none⟩ = some x ∧ W'.cell? ⟨w.heap.size, 1, none⟩ = some y ∧ Below w.heap.size w W' := by
  have hlt := World.block_lt_of_cell? W ⟨w.heap.size, 0, none⟩ h.1
  exact ⟨(hg.cell_far ⟨w.heap.size, 0, none⟩ hlt (by simp; omega)).trans h.1, (hg.cell_far ⟨w.heap.size, 1, none⟩ hlt (by simp; omega)).trans h.2.1, h.2.2.grown hg h.2.2.size (fun k hk => by cases hk; omega)⟩
theorem l6_alloc {w W : World} {x y : Value} (h : W.cell? ⟨w.heap.size, 0, none⟩ = some x ∧ W.cell? ⟨w.heap.size, 1, none⟩ = some y ∧ Below w.heap.size w W) (o : Obj) :
    (W.alloc o).cell? ⟨w.heap.size, 0, none⟩ = some x ∧ (W.alloc o).cell? ⟨w.heap.size, 1, none⟩ = some y ∧ Below w.heap.size w (W.alloc o) := by
  have hb : Below W.heap.size W (W.alloc o) := (Below.refl _ _).alloc (Nat.le_refl _) _
  exact ⟨cell_on h.1 hb, cell_on h.2.1 hb, h.2.2.alloc h.2.2.size _⟩
theorem own_new (w : World) (B : Nat) (hB : B ≤ w.heap.size) : OwnN (w.alloc (.cells #[] 3)) B w.heap.size 0 0 [] := own_built3 w B hB
theorem OwnN.drew {w : World} {B g n c : Nat} {l : List Int} (h : OwnN w B g n c l) : OwnN w.drew B g n c l := h
set_option maxRecDepth 100000 in
set_option maxHeartbeats 1000000 in
theorem copyCS (a : Option Addr) (pc : Int) (l : List Int) (n cap : Nat) (hl : l.length = n) (hn : n ≤ 1048576) (ha : a = none → n = 0 ∧ cap = 0) (w : World) (hr : Rd w a l) :
    Calls Try.prog 85 #[.agg #[.int .i64 pc, .slice a n cap]] w fun e w' => ∃ g c, e = .returned (.agg #[.int .i64 pc, .slice (some ⟨g, 0, none⟩) n c]) ∧ OwnN w' (w.heap.size + 2) g n c l ∧ Below w.heap.size w w' := by
  obtain ⟨hA, hZ, hW, hS⟩ := box2b w (.int .i64 pc) (.slice a n cap) (.int .i64 0) (.slice none 0 0) 98 98
  have HA : Hid (_ = _) := hA
  have HZ : Hid (_ = _) := hZ
  have HW : Hid (Below _ _ _) := hW
  have HS : Hid (_ = _) := hS
  have HR : Hid (Rd w a l) := hr
  have HL : Hid (l.length = n) := hl
  have HN : Hid (a = none → n = 0 ∧ cap = 0) := ha
  have HQ : Hid (_ ∧ _ ∧ _) := ⟨(row2_cells hA).1, (row2_cells hA).2.1, hW⟩
  clear hA hZ hW hS hr hl ha
  go_enter Try.func85, Try.ntmps85
  go_wp2_with fail
  generalize hW0 : (w.alloc (.cells #[.int .i64 pc, .slice a n cap] 98)).alloc (.cells #[.int .i64 0, .slice none 0 0] 98) = W0 at *
  clear hW0
  have HS2 : Hid (w.heap.size + 2 ≤ W0.heap.size) := by rw [HS.out]; exact Nat.le_refl _
  go_region_held3 (fun w' => w'.cell? ⟨w.heap.size, 0, none⟩ = some (.int .i64 pc) ∧ w'.cell? ⟨w.heap.size, 1, none⟩ = some (.slice a n cap) ∧ Below w.heap.size w w') (first | (exact HSz.out) | (exact l6_set (by omega) (l6_set (by omega) HSz.out)) | (exact l6_alloc (by assumption) _) | (exact ⟨HQ.out.1, HQ.out.2.1, HQ.out.2.2.drew⟩)) (first | (refine anyN rfl (.tmp 5) (.tmp 7) rfl (w.heap.size + 2) W0.heap.size 0 0 [] a n cap l rfl rfl (own_new W0 _ HS2.out).drew HL.out HN.out ?_ (by omega) (Nat.le_trans HS2.out (by simp)) ?_; (exact (HR.out.keep (And.right (And.right (by assumption))) (Nat.le_refl _))); intro g3 c3 w3 hown3 hgr3 hat3; have HSz : Hid (_ ∧ _ ∧ _) := l6_grown (by assumption) hgr3 (by have := HS2.out; omega); have HO3 : Hid (OwnN w3 _ _ _ _ _) := hown3; have kz := row2_cells (grown_row hgr3 ((Below.heap_alloc _ _ _ (row_lt HZ.out)).trans HZ.out) (by intro e; have := Option.some.inj e; have := HS.out; omega)); clear hown3 hgr3 hat3))
  rename_i hHeld
  have HSe : Hid (_ ∧ _ ∧ _) := hHeld
  clear hHeld
  go_wp2
  refine bodyPost_ret (v := .agg #[.int .i64 pc, .slice (some ⟨g3, 0, none⟩) n c3]) (by simp [results, Try.results85, go_sem, kz]) rfl ⟨g3, c3, rfl, ?_, HSe.out.2.2⟩
  have h := HO3.out
  have hge := h.ge
  rw [Nat.zero_add, List.nil_append] at h
  exact own_setOther (own_setOther h (fun k hk => by simp [Value.ownBlock] at hk; omega)) (fun k hk => by simp [Value.ownBlock] at hk; omega)
end Go.Proofs.Ytfdhcchakoldpaa.C
