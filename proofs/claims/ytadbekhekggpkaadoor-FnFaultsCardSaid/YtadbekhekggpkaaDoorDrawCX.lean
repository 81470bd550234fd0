/-
  Drawn code.
-/
import Derived.Test.YtadbekhekggpkaaDoorDrawIX
namespace Go.Proofs.YtadbekhekggpkaaDoor.I
open Go.RowKit Go.PlainAid
set_option linter.unusedVariables false

theorem app_drawn {w W w6 : World} {C B : Nat} {a : Option Addr} {len cap n : Nat} {v v' : Value} {xs ys : List (Int × Int)} {news : List Value} {o : Obj} (hD : Drawn w W C B a len cap) (hO : OwnI W w.heap.size v xs) (hlt : C < w.heap.size) (hB : B ≤ C)
    (hown' : w6.ownsRow w.heap.size 116 2 v' n (regsV xs ++ news)) (hgrow : (W.alloc o).grownBy w6 v.ownBlock) (hnews : news = regsV ys) (hn : n = xs.length + ys.length) :
    OwnI w6 w.heap.size v' (xs ++ ys) ∧ Drawn w w6 C B a len cap := by
  have hs := hD.2.2.size
  refine ⟨?_, drawn_grown (drawn_alloc hD (by omega) o) hgrow (own_ge hO) hlt (by omega)⟩
  subst hn hnews
  unfold OwnI
  rw [regsV_append, List.length_append]
  exact hown'

set_option maxRecDepth 100000 in
set_option maxHeartbeats 8000000 in
theorem codeD (C B : Nat) (a : Option Addr) (len cap : Nat) (w : World) (hC : Cur w C a len cap) (hB : B ≤ C) (hcode : CodeOk w B a len) :
    Calls Tryd.prog 49 #[.pointer (some ⟨C, 0, none⟩)] w fun e w' => ∃ (v : Value) (xs : List (Int × Int)), e = .returned v ∧ xs.length ≤ 46 ∧ v ≠ .slice none 0 0 ∧ OwnI w' w.heap.size v xs ∧ Drawn w w' C B a len cap := by
  obtain ⟨i0, hi, hz0, hz1, hz2⟩ := info_parts infoR
  have hlt := cur_lt hC
  have HD0 : Hid (Drawn w (w.alloc (.cells #[] 116)) C B a len cap) := drawn_alloc ⟨hC, hcode, World.grownBy.refl _ _⟩ (by omega) _
  have HO0 : Hid (OwnI _ _ _ _) := ownI_empty w
  clear hC hcode
  go_enter Tryd.func49, Tryd.ntmps49
  go_wp2
  go_loopg [3, 4] 15 (fun gk v iv wr => ∃ (i : Nat) (xs : List (Int × Int)), i + gk = 15 ∧ iv = .int .i64 i ∧ xs.length ≤ 3 * i ∧ Hid (v ≠ .slice none 0 0) ∧ Hid (OwnI wr w.heap.size v xs) ∧ Hid (Drawn w wr C B a len cap))
  case atStart => exact ⟨0, [], by omega, rfl, by simp, (show Hid _ from fun e => by cases e), HO0, HD0⟩
  case round =>
    clear HD0 HO0
    obtain ⟨i, xs, hi16, rfl, hxl, HV, HO, HD⟩ := hrel
    go_wp2_with fail
    refine (below28 C B a len cap 16 (by omega) (by omega) _ HD.out.1 hB HD.out.2.1).mono ?_
    rintro e w2 ⟨x, rfl, x0, x1, hD⟩
    have HD2 : Hid (Drawn w w2 C B a len cap) := drawn_trans HD.out hD
    have HO2 : Hid (OwnI w2 w.heap.size _ xs) := own_gr HO.out hD.2.2 hlt
    clear hD HD HO

    by_cases hx : (i : Int) < x
    · have hi14 : i ≤ 14 := by omega
      go_wp2_with fail
      refine (below28 C B a len cap 6 (by omega) (by omega) _ HD2.out.1 hB HD2.out.2.1).mono ?_
      rintro e w3 ⟨y, rfl, y0, y1, hD⟩
      have HD3 : Hid (Drawn w w3 C B a len cap) := drawn_trans HD2.out hD
      have HO3 : Hid (OwnI w3 w.heap.size _ xs) := own_gr HO2.out hD.2.2 hlt
      clear hD HD2 HO2

      have ways : y = 0 ∨ y = 1 ∨ y = 2 ∨ ((y == 0) = false ∧ (y == 1) = false ∧ (y == 2) = false) := by
        by_cases h1 : y = 0
        · exact .inl h1
        · by_cases h2 : y = 1
          · exact .inr (.inl h2)
          · by_cases h3 : y = 2
            · exact .inr (.inr (.inl h3))
            · exact .inr (.inr (.inr ⟨by simpa using h1, by simpa using h2, by simpa using h3⟩))
      rcases ways with rfl | rfl | rfl | ⟨g1, g2, g3⟩
      · skip
        go_wp2_with fail
        refine (below28 C B a len cap 5 (by omega) (by omega) _ HD3.out.1 hB HD3.out.2.1).mono ?_
        rintro e w4 ⟨p, rfl, p0, p1, hD⟩
        have HD4 : Hid (Drawn w w4 C B a len cap) := drawn_trans HD3.out hD
        have HO4 : Hid (OwnI w4 w.heap.size _ xs) := own_gr HO3.out hD.2.2 hlt
        clear hD HD3 HO3
        go_wp2_with fail
        refine (below28 C B a len cap 9 (by omega) (by omega) _ HD4.out.1 hB HD4.out.2.1).mono ?_
        rintro e w5 ⟨q, rfl, q0, q1, hD⟩
        have HD5 : Hid (Drawn w w5 C B a len cap) := drawn_trans HD4.out hD
        have HO5 : Hid (OwnI w5 w.heap.size _ xs) := own_gr HO4.out hD.2.2 hlt
        clear hD HD4 HO4
        have hown : w5.ownsRow w.heap.size 116 2 _ xs.length (regsV xs) := HO5.out
        have sW := HD5.out.2.2.size
        go_wp2_with (at_builtin; refine wpList_append_own _ rfl _ _ 70 rfl w.heap.size 116 i0 (.agg #[.int .i64 0, .int .i64 0]) 2 16 Tryd.underlying70 hi hz0 hz1 hz2 rfl (by decide) _ _ _ rfl (hown.alloc _) ⟨w5.heap.size, 0, none⟩ 3 3 [.int .i64 1, .int .i64 p, .int .i64 1, .int .i64 q, .int .i64 3, .int .i64 0] rfl rfl ?c1a ?c2a ?c3a ?c4a ?c5a ?_)
        case c1a => exact World.news_of_block (cs := #[.int .i64 1, .int .i64 p, .int .i64 1, .int .i64 q, .int .i64 3, .int .i64 0]) (t := 116) (fr := (0, 0)) (heap_alloc_new w5 _)
        case c2a => simp [Value.oneCell']
        case c3a => unfold maxLen; omega
        case c4a => omega
        case c5a => simp; omega
        intro v' w9 hown9 hgrow hnil
        have HV' : Hid (v' ≠ .slice none 0 0) := by first | exact hnil | exact fun e => absurd (hnil.1 e).2 (by decide)
        have hR := app_drawn (ys := [(1, p), (1, q), (3, 0)]) HD5.out HO5.out hlt hB hown9 hgrow rfl rfl
        have HR : Hid (_ ∧ _) := hR
        have HLN : Hid ((xs ++ [(1, p), (1, q), (3, 0)]).length = xs.length + 3) := by show _ = _; simp
        clear hR hown9 hgrow hown hnil HD5 HO5
        go_wp2
        go_roundg (gk - 1)
        case measure => omega
        case rel => exact ⟨i + 1, xs ++ [(1, p), (1, q), (3, 0)], by omega, by go_num, by rw [HLN.out]; omega, HV', HR.out.1, HR.out.2⟩

      · skip
        go_wp2_with fail
        refine (below28 C B a len cap 5 (by omega) (by omega) _ HD3.out.1 hB HD3.out.2.1).mono ?_
        rintro e w4 ⟨p, rfl, p0, p1, hD⟩
        have HD4 : Hid (Drawn w w4 C B a len cap) := drawn_trans HD3.out hD
        have HO4 : Hid (OwnI w4 w.heap.size _ xs) := own_gr HO3.out hD.2.2 hlt
        clear hD HD3 HO3
        go_wp2_with fail
        refine (below28 C B a len cap 2 (by omega) (by omega) _ HD4.out.1 hB HD4.out.2.1).mono ?_
        rintro e w5 ⟨q, rfl, q0, q1, hD⟩
        have HD5 : Hid (Drawn w w5 C B a len cap) := drawn_trans HD4.out hD
        have HO5 : Hid (OwnI w5 w.heap.size _ xs) := own_gr HO4.out hD.2.2 hlt
        clear hD HD4 HO4
        have hown : w5.ownsRow w.heap.size 116 2 _ xs.length (regsV xs) := HO5.out
        have sW := HD5.out.2.2.size
        go_wp2_with (at_builtin; refine wpList_append_own _ rfl _ _ 70 rfl w.heap.size 116 i0 (.agg #[.int .i64 0, .int .i64 0]) 2 16 Tryd.underlying70 hi hz0 hz1 hz2 rfl (by decide) _ _ _ rfl (hown.alloc _) ⟨w5.heap.size, 0, none⟩ 3 3 [.int .i64 1, .int .i64 p, .int .i64 2, .int .i64 0, .int .i64 16, .int .i64 q] rfl rfl ?c1b ?c2b ?c3b ?c4b ?c5b ?_)
        case c1b => exact World.news_of_block (cs := #[.int .i64 1, .int .i64 p, .int .i64 2, .int .i64 0, .int .i64 16, .int .i64 q]) (t := 116) (fr := (0, 0)) (heap_alloc_new w5 _)
        case c2b => simp [Value.oneCell']
        case c3b => unfold maxLen; omega
        case c4b => omega
        case c5b => simp; omega
        intro v' w9 hown9 hgrow hnil
        have HV' : Hid (v' ≠ .slice none 0 0) := by first | exact hnil | exact fun e => absurd (hnil.1 e).2 (by decide)
        have hR := app_drawn (ys := [(1, p), (2, 0), (16, q)]) HD5.out HO5.out hlt hB hown9 hgrow rfl rfl
        have HR : Hid (_ ∧ _) := hR
        have HLN : Hid ((xs ++ [(1, p), (2, 0), (16, q)]).length = xs.length + 3) := by show _ = _; simp
        clear hR hown9 hgrow hown hnil HD5 HO5
        go_wp2
        go_roundg (gk - 1)
        case measure => omega
        case rel => exact ⟨i + 1, xs ++ [(1, p), (2, 0), (16, q)], by omega, by go_num, by rw [HLN.out]; omega, HV', HR.out.1, HR.out.2⟩

      · skip
        go_wp2_with fail
        refine (below28 C B a len cap 3 (by omega) (by omega) _ HD3.out.1 hB HD3.out.2.1).mono ?_
        rintro e w4 ⟨p, rfl, p0, p1, hD⟩
        have HD4 : Hid (Drawn w w4 C B a len cap) := drawn_trans HD3.out hD
        have HO4 : Hid (OwnI w4 w.heap.size _ xs) := own_gr HO3.out hD.2.2 hlt
        clear hD HD3 HO3
        go_wp2_with fail
        refine (below28 C B a len cap 3 (by omega) (by omega) _ HD4.out.1 hB HD4.out.2.1).mono ?_
        rintro e w5 ⟨q, rfl, q0, q1, hD⟩
        have HD5 : Hid (Drawn w w5 C B a len cap) := drawn_trans HD4.out hD
        have HO5 : Hid (OwnI w5 w.heap.size _ xs) := own_gr HO4.out hD.2.2 hlt
        clear hD HD4 HO4
        have hown : w5.ownsRow w.heap.size 116 2 _ xs.length (regsV xs) := HO5.out
        have sW := HD5.out.2.2.size
        go_wp2_with (at_builtin; refine wpList_append_own _ rfl _ _ 70 rfl w.heap.size 116 i0 (.agg #[.int .i64 0, .int .i64 0]) 2 16 Tryd.underlying70 hi hz0 hz1 hz2 rfl (by decide) _ _ _ rfl (hown.alloc _) ⟨w5.heap.size, 0, none⟩ 3 3 [.int .i64 15, .int .i64 p, .int .i64 13, .int .i64 q, .int .i64 12, .int .i64 0] rfl rfl ?c1c ?c2c ?c3c ?c4c ?c5c ?_)
        case c1c => exact World.news_of_block (cs := #[.int .i64 15, .int .i64 p, .int .i64 13, .int .i64 q, .int .i64 12, .int .i64 0]) (t := 116) (fr := (0, 0)) (heap_alloc_new w5 _)
        case c2c => simp [Value.oneCell']
        case c3c => unfold maxLen; omega
        case c4c => omega
        case c5c => simp; omega
        intro v' w9 hown9 hgrow hnil
        have HV' : Hid (v' ≠ .slice none 0 0) := by first | exact hnil | exact fun e => absurd (hnil.1 e).2 (by decide)
        have hR := app_drawn (ys := [(15, p), (13, q), (12, 0)]) HD5.out HO5.out hlt hB hown9 hgrow rfl rfl
        have HR : Hid (_ ∧ _) := hR
        have HLN : Hid ((xs ++ [(15, p), (13, q), (12, 0)]).length = xs.length + 3) := by show _ = _; simp
        clear hR hown9 hgrow hown hnil HD5 HO5
        go_wp2
        go_roundg (gk - 1)
        case measure => omega
        case rel => exact ⟨i + 1, xs ++ [(15, p), (13, q), (12, 0)], by omega, by go_num, by rw [HLN.out]; omega, HV', HR.out.1, HR.out.2⟩

      · go_wp2_with fail
        refine (instrD C B a len cap _ HD3.out.1 hB HD3.out.2.1).mono ?_
        rintro e w4 ⟨f, s, rfl, hD⟩
        have HD4 : Hid (Drawn w w4 C B a len cap) := drawn_trans HD3.out hD
        have HO4 : Hid (OwnI w4 w.heap.size _ xs) := own_gr HO3.out hD.2.2 hlt
        clear hD HD3 HO3
        have hown : w4.ownsRow w.heap.size 116 2 _ xs.length (regsV xs) := HO4.out
        have sW := HD4.out.2.2.size
        go_wp2_with (at_builtin; refine wpList_append_own _ rfl _ _ 70 rfl w.heap.size 116 i0 (.agg #[.int .i64 0, .int .i64 0]) 2 16 Tryd.underlying70 hi hz0 hz1 hz2 rfl (by decide) _ _ _ rfl (hown.alloc _) ⟨w4.heap.size, 0, none⟩ 1 1 [.int .i64 f, .int .i64 s] rfl rfl ?c1d ?c2d ?c3d ?c4d ?c5d ?_)
        case c1d => exact World.news_of_block (cs := #[.int .i64 f, .int .i64 s]) (t := 116) (fr := (0, 0)) (heap_alloc_new w4 _)
        case c2d => simp [Value.oneCell']
        case c3d => unfold maxLen; omega
        case c4d => omega
        case c5d => simp; omega
        intro v' w9 hown9 hgrow hnil
        have HV' : Hid (v' ≠ .slice none 0 0) := by first | exact hnil | exact fun e => absurd (hnil.1 e).2 (by decide)
        have hR := app_drawn (ys := [(f, s)]) HD4.out HO4.out hlt hB hown9 hgrow rfl rfl
        have HR : Hid (_ ∧ _) := hR
        have HLN : Hid ((xs ++ [(f, s)]).length = xs.length + 1) := by show _ = _; simp
        clear hR hown9 hgrow hown hnil HD4 HO4
        go_wp2
        go_roundg (gk - 1)
        case measure => omega
        case rel => exact ⟨i + 1, xs ++ [(f, s)], by omega, by go_num, by rw [HLN.out]; omega, HV', HR.out.1, HR.out.2⟩

    · go_wp2_with fail
      refine (onceR C B a len cap 2 (by omega) (by omega) _ HD2.out.1 hB HD2.out.2.1).mono ?_
      rintro e w3 ⟨b, rfl, hD⟩
      have HD3 : Hid (Drawn w w3 C B a len cap) := drawn_trans HD2.out hD
      have HO3 : Hid (OwnI w3 w.heap.size _ xs) := own_gr HO2.out hD.2.2 hlt
      have hx45 : xs.length ≤ 45 := by omega
      clear hD HD2 HO2
      cases b
      · go_wp2
        go_ret
        exact ⟨_, xs, rfl, by omega, HV.out, HO3.out, HD3.out⟩
      · skip
        have hown : w3.ownsRow w.heap.size 116 2 _ xs.length (regsV xs) := HO3.out
        have sW := HD3.out.2.2.size
        go_wp2_with (at_builtin; refine wpList_append_own _ rfl _ _ 70 rfl w.heap.size 116 i0 (.agg #[.int .i64 0, .int .i64 0]) 2 16 Tryd.underlying70 hi hz0 hz1 hz2 rfl (by decide) _ _ _ rfl (hown.alloc _) ⟨w3.heap.size, 0, none⟩ 1 1 [.int .i64 0, .int .i64 0] rfl rfl ?c1e ?c2e ?c3e ?c4e ?c5e ?_)
        case c1e => exact World.news_of_block (cs := #[.int .i64 0, .int .i64 0]) (t := 116) (fr := (0, 0)) (heap_alloc_new w3 _)
        case c2e => simp [Value.oneCell']
        case c3e => unfold maxLen; omega
        case c4e => omega
        case c5e => simp; omega
        intro v' w9 hown9 hgrow hnil
        have HV' : Hid (v' ≠ .slice none 0 0) := by first | exact hnil | exact fun e => absurd (hnil.1 e).2 (by decide)
        have hR := app_drawn (ys := [(0, 0)]) HD3.out HO3.out hlt hB hown9 hgrow rfl rfl
        have HR : Hid (_ ∧ _) := hR
        have HLN : Hid ((xs ++ [(0, 0)]).length = xs.length + 1) := by show _ = _; simp
        clear hR hown9 hgrow hown hnil HD3 HO3
        go_wp2
        go_ret
        exact ⟨_, xs ++ [(0, 0)], rfl, by rw [HLN.out]; omega, HV'.out, HR.out.1, HR.out.2⟩

end Go.Proofs.YtadbekhekggpkaaDoor.I
