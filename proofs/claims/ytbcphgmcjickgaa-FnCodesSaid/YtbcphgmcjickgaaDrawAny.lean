/-
  Any drawn code.
-/
import Derived.Test.YtbcphgmcjickgaaDrawC
namespace Go.Proofs.Ytbcphgmcjickgaa
open Go.RowKit Go.PlainAid
set_option linter.unusedVariables false

theorem own_nn {w : World} {B : Nat} {v : Value} {xs : List (Int × Int)} (h : OwnI w B v xs) (hv : v ≠ .slice none 0 0) : ∃ g c, v = .slice (some ⟨g, 0, none⟩) xs.length c := by
  rcases h.2 with ⟨rfl, _⟩ | ⟨g, cap, cur, rfl, _⟩
  · exact absurd rfl hv
  · exact ⟨g, cap, rfl⟩
theorem laid_ints0 (w : World) (l : List Int) (j : Nat) (hj : j < l.length) : (w.alloc (.cells (l.map (Value.int .i64)).toArray 3)).cell? ⟨w.heap.size, j, none⟩ = some (.int .i64 l[j]) := laid_ints w l j hj

set_option maxRecDepth 100000 in
set_option maxHeartbeats 8000000 in
theorem anyD (C B : Nat) (a : Option Addr) (len cap : Nat) (w : World) (hC : Cur w C a len cap) (hB : B ≤ C) (hcode : CodeOk w B a len) :
    Calls Try.prog 25 #[.pointer (some ⟨C, 0, none⟩)] w fun e w' => ∃ (v : Value) (xs : List (Int × Int)), e = .returned v ∧ xs.length ≤ 61 ∧ OwnI w' w.heap.size v xs ∧ Drawn w w' C B a len cap := by
  obtain ⟨i0, hi, hz0, hz1, hz2⟩ := info_parts infoR
  have hlt := cur_lt hC
  have HD0 : Hid (Drawn w (w.alloc (.cells #[] 45)) C B a len cap) := drawn_alloc ⟨hC, hcode, World.grownBy.refl _ _⟩ (by omega) _
  have HO0 : Hid (OwnI (w.alloc (.cells #[] 45)) w.heap.size (.slice (some ⟨w.heap.size, 0, none⟩) 0 0) []) := ownI_empty w
  clear hC hcode
  go_enter Try.func25, Try.ntmps25
  go_wp2_with fail
  refine (codeD C B a len cap _ HD0.out.1 hB HD0.out.2.1).mono ?_
  rintro e w1 ⟨v, xs, rfl, hxl, hvn, hox, hD⟩
  obtain ⟨g, c, hv⟩ := own_nn hox hvn
  subst hv
  have HD1 : Hid (Drawn w w1 C B a len cap) := drawn_trans HD0.out hD
  have hown : w1.ownsRow w.heap.size 45 2 (.slice (some ⟨w.heap.size, 0, none⟩) 0 0) 0 (regsV []) := own_gr HO0.out hD.2.2 hlt
  have hnews : ∀ j u, (regsV xs)[j]? = some u → w1.cell? ((⟨g, 0, none⟩ : Addr).add j) = some u := World.ownsRow.cells hox rfl
  have s1 := HD1.out.2.2.size
  clear hD HD0 HO0 hvn
  go_wp2_with (at_builtin; refine wpList_append_own _ rfl _ _ 24 rfl w.heap.size 45 i0 (.agg #[.int .i64 0, .int .i64 0]) 2 16 Try.underlying24 hi hz0 hz1 hz2 rfl (by decide) _ _ _ rfl hown ⟨g, 0, none⟩ xs.length c (regsV xs) rfl (regsV_len xs) hnews (regsV_one xs) ?c3 ?c4 ?c5 ?_)
  case c3 => unfold maxLen; omega
  case c4 => omega
  case c5 => omega
  intro v2 w2 hown2 hgrow _
  have HO2 : Hid (OwnI w2 w.heap.size v2 xs) := by
    exact hown2
  have HD2 : Hid (Drawn w w2 C B a len cap) := drawn_grown HD1.out hgrow (own_ge hown) hlt (by omega)
  clear hown hown2 hgrow hnews hox HD1
  go_wp2_with fail
  refine (below28 C B a len cap 12 (by omega) (by omega) _ HD2.out.1 hB HD2.out.2.1).mono ?_
  rintro e w4 ⟨y, rfl, y0, y1, hD⟩
  have HD4 : Hid (Drawn w w4 C B a len cap) := drawn_trans HD2.out hD
  have HO4 : Hid (OwnI w4 w.heap.size _ xs) := own_gr HO2.out hD.2.2 hlt
  clear hD HD2 HO2

  have s4 := HD4.out.2.2.size
  have ways : y = 0 ∨ y = 1 ∨ y = 2 ∨ ((y == 0) = false ∧ (y == 1) = false ∧ (y == 2) = false) := by
    by_cases h1 : y = 0
    · exact .inl h1
    · by_cases h2 : y = 1
      · exact .inr (.inl h2)
      · by_cases h3 : y = 2
        · exact .inr (.inr (.inl h3))
        · exact .inr (.inr (.inr ⟨by simpa using h1, by simpa using h2, by simpa using h3⟩))
  rcases ways with rfl | rfl | rfl | ⟨g1, g2, g3⟩
  · skip
    have HDa : Hid (∀ o, Drawn w (w4.alloc o) C B a len cap) := fun o => drawn_alloc HD4.out (by omega) o
    have HOa : Hid (∀ o, OwnI (w4.alloc o) w.heap.size v2 xs) := fun o => HO4.out.alloc o
    have HLI : Hid _ := laid_ints0 w4 [-1, 255, 256]
    have sC := cur_lt HD4.out.1
    clear HD4 HO4
    go_wp2_with fail
    refine (pick26' C B a len cap [-1, 255, 256] 3 _ _ rfl (by omega) (by omega) _ (HDa.out _).1 hB (HDa.out _).2.1 (by omega) (by simp) HLI.out).mono ?_
    rintro e w5 ⟨z, rfl, _, hD⟩
    have HD5 : Hid (Drawn w w5 C B a len cap) := drawn_trans (HDa.out _) hD
    have HO5 : Hid (OwnI w5 w.heap.size v2 xs) := own_gr (HOa.out _) hD.2.2 hlt
    clear hD HDa HOa HLI
    have hown : w5.ownsRow w.heap.size 45 2 _ xs.length (regsV xs) := HO5.out
    have sW := HD5.out.2.2.size
    go_wp2_with (at_builtin; refine wpList_append_own _ rfl _ _ 24 rfl w.heap.size 45 i0 (.agg #[.int .i64 0, .int .i64 0]) 2 16 Try.underlying24 hi hz0 hz1 hz2 rfl (by decide) _ _ _ rfl (hown.alloc _) ⟨w5.heap.size, 0, none⟩ 1 1 [.int .i64 z, .int .i64 1] rfl rfl ?c1a ?c2a ?c3a ?c4a ?c5a ?_)
    case c1a => exact World.news_of_block (cs := #[.int .i64 z, .int .i64 1]) (t := 45) (fr := (0, 0)) (heap_alloc_new w5 _)
    case c2a => simp [Value.oneCell']
    case c3a => unfold maxLen; omega
    case c4a => omega
    case c5a => simp; omega
    intro v' w9 hown9 hgrow hnil
    have HV' : Hid (v' ≠ .slice none 0 0) := by first | exact hnil | exact fun e => absurd (hnil.1 e).2 (by decide)
    have hR := app_drawn (ys := [(z, 1)]) HD5.out HO5.out hlt hB hown9 hgrow rfl rfl
    have HR : Hid (_ ∧ _) := hR
    have HLN : Hid ((xs ++ [(z, 1)]).length = xs.length + 1) := by show _ = _; simp
    clear hR hown9 hgrow hown hnil HD5 HO5
    go_wp2
    go_ret
    exact ⟨_, xs ++ [(z, 1)], rfl, by rw [HLN.out]; omega, HR.out.1, HR.out.2⟩

  · skip
    have HDa : Hid (∀ o, Drawn w (w4.alloc o) C B a len cap) := fun o => drawn_alloc HD4.out (by omega) o
    have HOa : Hid (∀ o, OwnI (w4.alloc o) w.heap.size v2 xs) := fun o => HO4.out.alloc o
    have HLI : Hid _ := laid_ints0 w4 [-1, 255, 256]
    have sC := cur_lt HD4.out.1
    clear HD4 HO4
    go_wp2_with fail
    refine (pick26' C B a len cap [-1, 255, 256] 3 _ _ rfl (by omega) (by omega) _ (HDa.out _).1 hB (HDa.out _).2.1 (by omega) (by simp) HLI.out).mono ?_
    rintro e w5 ⟨z, rfl, _, hD⟩
    have HD5 : Hid (Drawn w w5 C B a len cap) := drawn_trans (HDa.out _) hD
    have HO5 : Hid (OwnI w5 w.heap.size v2 xs) := own_gr (HOa.out _) hD.2.2 hlt
    clear hD HDa HOa HLI
    have hown : w5.ownsRow w.heap.size 45 2 _ xs.length (regsV xs) := HO5.out
    have sW := HD5.out.2.2.size
    go_wp2_with (at_builtin; refine wpList_append_own _ rfl _ _ 24 rfl w.heap.size 45 i0 (.agg #[.int .i64 0, .int .i64 0]) 2 16 Try.underlying24 hi hz0 hz1 hz2 rfl (by decide) _ _ _ rfl (hown.alloc _) ⟨w5.heap.size, 0, none⟩ 1 1 [.int .i64 1, .int .i64 z] rfl rfl ?c1b ?c2b ?c3b ?c4b ?c5b ?_)
    case c1b => exact World.news_of_block (cs := #[.int .i64 1, .int .i64 z]) (t := 45) (fr := (0, 0)) (heap_alloc_new w5 _)
    case c2b => simp [Value.oneCell']
    case c3b => unfold maxLen; omega
    case c4b => omega
    case c5b => simp; omega
    intro v' w9 hown9 hgrow hnil
    have HV' : Hid (v' ≠ .slice none 0 0) := by first | exact hnil | exact fun e => absurd (hnil.1 e).2 (by decide)
    have hR := app_drawn (ys := [(1, z)]) HD5.out HO5.out hlt hB hown9 hgrow rfl rfl
    have HR : Hid (_ ∧ _) := hR
    have HLN : Hid ((xs ++ [(1, z)]).length = xs.length + 1) := by show _ = _; simp
    clear hR hown9 hgrow hown hnil HD5 HO5
    go_wp2
    go_ret
    exact ⟨_, xs ++ [(1, z)], rfl, by rw [HLN.out]; omega, HR.out.1, HR.out.2⟩

  · obtain ⟨q0, c0, hv0, _⟩ := HO4.out.rd
    subst hv0
    go_wp2
    go_loopg [3] (61 - xs.length) (fun gk v wr => ∃ (ys : List (Int × Int)) (q : Option Addr) (c : Nat), ys.length ≤ 61 ∧ ys.length + gk = 61 ∧ v = .slice q ys.length c ∧ Hid (OwnI wr w.heap.size v ys) ∧ Hid (Drawn w wr C B a len cap))
    case atStart => exact ⟨xs, q0, c0, by omega, by omega, rfl, HO4, HD4⟩
    case round =>
      clear HO4 HD4 hxl s4
      obtain ⟨xs, q, c, hx1, hx2, rfl, HO, HD⟩ := hrel
      go_wp2_with fail
      refine (below28 C B a len cap 2 (by omega) (by omega) _ HD.out.1 hB HD.out.2.1).mono ?_
      rintro e w5 ⟨x, rfl, x0, x1, hD⟩
      have HD5 : Hid (Drawn w w5 C B a len cap) := drawn_trans HD.out hD
      have HO5 : Hid (OwnI w5 w.heap.size _ xs) := own_gr HO.out hD.2.2 hlt
      clear hD HD HO

      by_cases hx : (xs.length : Int) < 60 + x
      · have hx60 : xs.length ≤ 60 := by omega
        have hown : w5.ownsRow w.heap.size 45 2 _ xs.length (regsV xs) := HO5.out
        have sW := HD5.out.2.2.size
        go_wp2_with (at_builtin; refine wpList_append_own _ rfl _ _ 24 rfl w.heap.size 45 i0 (.agg #[.int .i64 0, .int .i64 0]) 2 16 Try.underlying24 hi hz0 hz1 hz2 rfl (by decide) _ _ _ rfl (hown.alloc _) ⟨w5.heap.size, 0, none⟩ 1 1 [.int .i64 17, .int .i64 0] rfl rfl ?c1c ?c2c ?c3c ?c4c ?c5c ?_)
        case c1c => exact World.news_of_block (cs := #[.int .i64 17, .int .i64 0]) (t := 45) (fr := (0, 0)) (heap_alloc_new w5 _)
        case c2c => simp [Value.oneCell']
        case c3c => unfold maxLen; omega
        case c4c => omega
        case c5c => simp; omega
        intro v' w9 hown9 hgrow hnil
        have HV' : Hid (v' ≠ .slice none 0 0) := by first | exact hnil | exact fun e => absurd (hnil.1 e).2 (by decide)
        have hR := app_drawn (ys := [(17, 0)]) HD5.out HO5.out hlt hB hown9 hgrow rfl rfl
        have HR : Hid (_ ∧ _) := hR
        have HLN : Hid ((xs ++ [(17, 0)]).length = xs.length + 1) := by show _ = _; simp
        clear hR hown9 hgrow hown hnil HD5 HO5
        have hO := HR.out.1
        obtain ⟨q', c', hv', _⟩ := hO.rd
        have HO' : Hid (OwnI w9 w.heap.size v' (xs ++ [(17, 0)])) := hO
        clear hO
        go_wp2
        go_roundg (gk - 1)
        case measure => omega
        case rel => exact ⟨xs ++ [(17, 0)], q', c', by rw [HLN.out]; omega, by rw [HLN.out]; omega, hv', HO', HR.out.2⟩

      · go_wp2
        go_ret
        exact ⟨_, xs, rfl, by omega, HO5.out, HD5.out⟩
  · go_wp2
    go_ret
    exact ⟨_, xs, rfl, by omega, HO4.out, HD4.out⟩
end Go.Proofs.Ytbcphgmcjickgaa
