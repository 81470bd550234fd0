/-
  The cells' functions of the specification: contracts.
-/
import Derived.Test.YthnocibkgpofnaaImpl6
import Derived.Laws.AppendOwnNone
namespace Go.Proofs.Ythnocibkgpofnaa
open Go.RowKit Go.PlainAid
set_option linter.unusedVariables false

/-- where the cell at of a region lies, -1 where there is none -/
def atP (n : Nat) (f s p : Int) : Int := if 0 ≤ p ∧ p < (cutN n f s : Int) then f + p else -1
theorem atP_yes {n : Nat} {f s p : Int} (h0 : 0 ≤ p) (h1 : p < s) (h2 : 0 ≤ f) (h3 : f ≤ (n : Int) - 1) (h4 : p < (n : Int) - f) : atP n f s p = f + p := by
  have hc := cutN_yes (n := n) (f := f) (s := s) (by omega)
  unfold atP
  rw [hc, if_pos (by omega)]
theorem atP_no {n : Nat} {f s p : Int} (h : ¬ (0 ≤ p ∧ p < s ∧ 0 ≤ f ∧ f ≤ (n : Int) - 1 ∧ p < (n : Int) - f)) : atP n f s p = -1 := by
  unfold atP
  by_cases hc : s < 1 ∨ f < 0 ∨ (n : Int) < f
  · rw [cutN_no hc, if_neg (by omega)]
  · rw [cutN_yes hc, if_neg (by omega)]

set_option maxRecDepth 100000 in
set_option maxHeartbeats 400000 in
theorem atS (a : Option Addr) (n cap : Nat) (f s p : Int) (hn : n ≤ 1048576) (w : World) :
    Calls Try.prog 68 #[.agg #[.slice a n cap], .agg #[.int .i64 f, .int .i64 s], .int .i64 p] w fun e w' => e = .returned (.int .i64 (atP n f s p)) ∧ Below w.heap.size w w' := by
  obtain ⟨hA, hR, hW⟩ := arena_start w (.slice a n cap) (.int .i64 f) (.int .i64 s) 34 36
  have HW : Hid (Below _ _ _) := hW
  clear hA hR hW
  by_cases h0 : 0 ≤ p
  · by_cases h1 : p < s
    · by_cases h2 : 0 ≤ f ∧ f ≤ (n : Int) - 1
      · have hd : decide ((0 : Int) ≤ f ∧ f ≤ (n : Int) - 1) = true := decide_eq_true h2
        obtain ⟨h2a, h2b⟩ := h2
        by_cases h3 : p < (n : Int) - f
        · have HX : Hid (atP n f s p = f + p) := atP_yes h0 h1 h2a h2b h3
          go_enter Try.func68, Try.ntmps68
          go_wp2_with fail
          refine (inS 0 ((n : Int) - 1) f true hd _).mono ?_
          rintro e w1 ⟨rfl, rfl⟩
          clear hd
          go_wp2
          go_ret
          exact ⟨by rw [HX.out]; rfl, HW.out⟩
        · have HX : Hid (atP n f s p = -1) := atP_no (by omega)
          go_enter Try.func68, Try.ntmps68
          go_wp2_with fail
          refine (inS 0 ((n : Int) - 1) f true hd _).mono ?_
          rintro e w1 ⟨rfl, rfl⟩
          clear hd
          go_wp2
          go_ret
          exact ⟨by rw [HX.out]; rfl, HW.out⟩
      · have hd : decide ((0 : Int) ≤ f ∧ f ≤ (n : Int) - 1) = false := decide_eq_false h2
        have HX : Hid (atP n f s p = -1) := atP_no (by omega)
        go_enter Try.func68, Try.ntmps68
        go_wp2_with fail
        refine (inS 0 ((n : Int) - 1) f false hd _).mono ?_
        rintro e w1 ⟨rfl, rfl⟩
        clear hd
        go_wp2
        go_ret
        exact ⟨by rw [HX.out]; rfl, HW.out⟩
    · have HX : Hid (atP n f s p = -1) := atP_no (by omega)
      go_enter Try.func68, Try.ntmps68
      go_wp2
      go_ret
      exact ⟨by rw [HX.out]; rfl, HW.out⟩
  · have HX : Hid (atP n f s p = -1) := atP_no (by omega)
    go_enter Try.func68, Try.ntmps68
    go_wp2
    go_ret
    exact ⟨by rw [HX.out]; rfl, HW.out⟩

theorem own_built3 (w : World) (B : Nat) (hB : B ≤ w.heap.size) : (w.alloc (.cells #[] 3)).ownsRow B 3 1 (.slice (some ⟨w.heap.size, 0, none⟩) 0 0) 0 [] :=
  ⟨rfl, Or.inr ⟨_, 0, #[], rfl, hB, by show (w.heap.push _)[w.heap.size]? = _; simp, Nat.le_refl _, by decide, rfl, rfl⟩⟩

theorem own_lt {w : World} {B e z n : Nat} {v : Value} {xs : List Value} (h : w.ownsRow B e z v n xs) : ∀ g, v.ownBlock = some g → g < w.heap.size := fun k hk => (h.lt k hk).2
theorem own_ge {w : World} {B e z n : Nat} {v : Value} {xs : List Value} (h : w.ownsRow B e z v n xs) : ∀ g, v.ownBlock = some g → B ≤ g := fun k hk => (h.lt k hk).1
/-- what lies below the line stays owned -/
theorem own_keep {w w' : World} {B C e z n : Nat} {v : Value} {xs : List Value} (h : w.ownsRow B e z v n xs) (hb : Below C w w') (hlt : ∀ g, v.ownBlock = some g → g < C) : w'.ownsRow B e z v n xs := by
  refine ⟨h.1, ?_⟩
  rcases h.2 with h2 | ⟨g, cap, cur, rfl, hg, hh, h3⟩
  · exact .inl h2
  · exact .inr ⟨g, cap, cur, rfl, hg, by rw [hb.block g (hlt g rfl)]; exact hh, h3⟩
theorem own_mono {w : World} {B C e z n : Nat} {v : Value} {xs : List Value} (h : w.ownsRow B e z v n xs) (hC : C ≤ B) : w.ownsRow C e z v n xs := by
  refine ⟨h.1, ?_⟩
  rcases h.2 with h2 | ⟨g, cap, cur, rfl, hg, h3⟩
  · exact .inl h2
  · exact .inr ⟨g, cap, cur, rfl, by omega, h3⟩
theorem own_shape {w : World} {B e z n : Nat} {v : Value} {xs : List Value} (h : w.ownsRow B e z v n xs) : ∃ a cap, v = .slice a n cap := by
  rcases h.2 with ⟨rfl, e⟩ | ⟨g, cap, cur, rfl, _⟩
  · exact ⟨none, 0, by rw [e]⟩
  · exact ⟨_, cap, rfl⟩
theorem own_setOther {w : World} {B e z n k i : Nat} {v x : Value} {xs : List Value} (h : w.ownsRow B e z v n xs) (hk : ∀ g, v.ownBlock = some g → g ≠ k) : (w.setCell ⟨k, i, none⟩ x).ownsRow B e z v n xs := by
  refine ⟨h.1, ?_⟩
  rcases h.2 with h2 | ⟨g, cap, cur, rfl, hg, hh, h3⟩
  · exact .inl h2
  · exact .inr ⟨g, cap, cur, rfl, hg, set_other hh (hk g rfl), h3⟩

/-- a block stays behind what only grows, and writes another one -/
theorem grown_row {w w' : World} {r : Option Nat} {k : Nat} {o : Obj} (hg : w.grownBy w' r) (h : w.heap[k]? = some o) (hne : r ≠ some k) : w'.heap[k]? = some o :=
  (hg.block k (row_lt h) (fun e => hne e.symm)).trans h

set_option maxRecDepth 100000 in
set_option maxHeartbeats 400000 in
theorem copyS (ad : Addr) (l : List Int) (n cap : Nat) (hl : l.length = n) (hn : n ≤ 1048576) (w : World) (hr : Rd w (some ad) l) :
    Calls Try.prog 54 #[.agg #[.slice (some ad) n cap]] w fun e w' => ∃ v, e = .returned (.agg #[v]) ∧ w'.ownsRow (w.heap.size + 2) 3 1 v n (intsV l) ∧ Below w.heap.size w w' := by
  obtain ⟨i0, hi, hz0, hz1, hz2⟩ := info_parts info3
  have HRd : Hid (Rd w (some ad) l) := hr
  have HL : Hid (l.length = n) := hl
  clear hr hl
  go_enter Try.func54, Try.ntmps54
  go_wp2_with (at_builtin; refine wpList_append_own _ rfl _ _ 23 rfl (w.heap.size + 2) 3 i0 (.int .i64 0) 1 8 Try.underlying23 hi hz0 hz1 hz2 rfl (by decide) (.slice (some ⟨w.heap.size + 1 + 1, 0, none⟩) 0 0) 0 [] rfl ?c0 ad n cap (intsV l) rfl ?c1 ?c2 intsV_one ?c3 ?c4 ?c5 ?_)
  case c0 =>
    have := own_built3 ((w.alloc (.cells #[.slice (some ad) n cap] 34)).alloc (.cells #[.slice none 0 0] 34)) (w.heap.size + 2) (by simp)
    simpa using this
  case c1 => rw [intsV_len, HL.out]; simp
  case c2 =>
    intro j u hj
    obtain ⟨hjl, rfl⟩ := intsV_at hj
    obtain ⟨g, off, ha, hc⟩ := HRd.out (by omega)
    cases ha
    rw [add_at]
    have hlt := World.block_lt_of_cell? w ⟨g, off + j, none⟩ (hc j hjl)
    exact ((((Below.refl w.heap.size w).alloc (Nat.le_refl _) _).alloc (by simp) _).alloc (by simp; omega) _ |>.cell (p := ⟨g, off + j, none⟩) hlt).trans (hc j hjl)
  case c3 => unfold maxLen; omega
  case c4 => omega
  case c5 => simp
  intro v' w5 hown5 hgrow _
  have HW5 : Hid (Below w.heap.size w w5) := ((((Below.refl w.heap.size w).alloc (Nat.le_refl _) _).alloc (by simp) _).alloc (by simp; omega) _).grown hgrow (by simp; omega) (fun k hk => by simp [Value.ownBlock] at hk; omega)
  have HZ : Hid (w5.heap[w.heap.size + 1]? = some (.cells #[.slice none 0 0] 34)) := grown_row hgrow ((Below.heap_alloc _ _ _ (by simp)).trans (by have := heap_new (w.alloc (.cells #[.slice (some ad) n cap] 34)) (.cells #[.slice none 0 0] 34); simpa using this)) (by simp [Value.ownBlock])
  obtain ⟨a', cap', hv⟩ := own_shape hown5
  subst hv
  have HO : Hid (w5.ownsRow (w.heap.size + 2) 3 1 (.slice a' n cap') n (intsV l)) := hown5
  have c4 := row1_cells HZ.out
  clear hown5 hgrow
  go_wp2
  refine bodyPost_ret (v := .agg #[.slice a' n cap']) (by simp [results, Try.results54, go_sem, c4]) rfl ⟨_, rfl, ?_, ?_⟩
  · exact own_setOther HO.out (fun g hg => by have := own_ge HO.out g hg; omega)
  · exact HW5.out.setCell (by simp) _
end Go.Proofs.Ythnocibkgpofnaa
