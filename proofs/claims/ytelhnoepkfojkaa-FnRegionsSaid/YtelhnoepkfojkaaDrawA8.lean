/-
  Drawn regions, right or not; a drawn arena; a drawn region.
-/
import Derived.Test.YtelhnoepkfojkaaDrawR8
import Derived.Deep.DeepCutAuto
import Derived.Deep.RegionWith
namespace Go.Proofs.Ytelhnoepkfojkaa
open Go.RowKit Go.PlainAid
set_option linter.unusedVariables false

theorem regsV_set0 : ∀ (rl : List (Int × Int)) (j : Nat) (h : j < rl.length) (f : Int), (regsV rl).set (j * 2) (.int .i64 f) = regsV (rl.set j (f, rl[j].2))
  | [], j, h, f => by simp at h
  | r :: t, 0, h, f => by simp [regsV]
  | r :: t, j + 1, h, f => by
    have := regsV_set0 t j (by simpa using h) f
    rw [show (j + 1) * 2 = j * 2 + 1 + 1 by omega]
    simpa [regsV] using this
theorem regsV_set1 : ∀ (rl : List (Int × Int)) (j : Nat) (h : j < rl.length) (s : Int), (regsV rl).set (j * 2 + 1) (.int .i64 s) = regsV (rl.set j (rl[j].1, s))
  | [], j, h, s => by simp at h
  | r :: t, 0, h, s => by simp [regsV]
  | r :: t, j + 1, h, s => by
    have := regsV_set1 t j (by simpa using h) s
    rw [show (j + 1) * 2 = j * 2 + 1 + 1 by omega]
    simpa [regsV] using this
theorem own_atR {w : World} {B n g c j : Nat} {rl : List (Int × Int)} (h : w.ownsRow B 31 2 (.slice (some ⟨g, 0, none⟩) n c) n (regsV rl)) (hj : j < rl.length) : w.cell? ⟨g, j * 2, none⟩ = some (.int .i64 rl[j].1) ∧ w.cell? ⟨g, j * 2 + 1, none⟩ = some (.int .i64 rl[j].2) := by
  have hc := h.cells rfl
  have ha := regsV_at rl j hj
  have h1 := hc _ _ ha.1
  have h2 := hc _ _ ha.2
  rw [add_at, Nat.zero_add] at h1 h2
  exact ⟨h1, h2⟩
theorem drawn_put {w W : World} {C B : Nat} {a : Option Addr} {len cap : Nat} (h : Drawn w W C B a len cap) {k : Nat} (i : Nat) (v : Value) (hk : w.heap.size ≤ k) (hC : C < w.heap.size) (hB : B ≤ C) : Drawn w (W.setCell ⟨k, i, none⟩ v) C B a len cap := by
  obtain ⟨⟨j, x, hj, hc⟩, hcode, hg⟩ := h
  refine ⟨⟨j, x, hj, ?_⟩, code_below hcode ((Below.refl _ _).setCell (by show _ ≤ k; omega) v), ?_⟩
  · unfold CurAt
    rw [Below.heap_setCell _ _ _ _ (by show C ≠ k; omega)]
    exact hc
  · have hs : (W.setCell ⟨k, i, none⟩ v).heap.size = W.heap.size := by simp
    exact ⟨hg.os, hg.tape, hg.output, by rw [hs]; exact hg.size, fun m hm hne => (Below.heap_setCell _ _ _ _ (show m ≠ k by omega)).trans (hg.block m hm hne)⟩

set_option maxRecDepth 100000 in
set_option maxHeartbeats 4000000 in
theorem anyR (C B : Nat) (a : Option Addr) (len cap : Nat) (w : World) (hC : Cur w C a len cap) (hB : B ≤ C) (hcode : CodeOk w B a len) :
    Calls Try.prog 51 #[.pointer (some ⟨C, 0, none⟩)] w fun e w' => ∃ (v : Value) (rl : List (Int × Int)), e = .returned v ∧ rl.length ≤ 5 ∧ w'.ownsRow w.heap.size 31 2 v rl.length (regsV rl) ∧ Drawn w w' C B a len cap := by
  obtain ⟨i0, hi, hz0, hz1, hz2⟩ := info_parts infoR
  have hlt := cur_lt hC
  have HCu : Hid (Cur w C a len cap) := hC
  have HCo : Hid (CodeOk w B a len) := hcode
  clear hC hcode
  go_enter Try.func51, Try.ntmps51
  go_wp2_with fail
  refine (regions C B a len cap _ HCu.out hB HCo.out).mono ?_
  rintro e w1 ⟨v, rl, rfl, hok, hown, hD⟩
  obtain ⟨q, c, hv⟩ := own_shape hown
  subst hv
  have hn1 := hok.1
  have hn4 := hok.2.1
  obtain ⟨g, rfl, hg⟩ := own_addr hown (by omega)
  obtain ⟨n, HN⟩ : ∃ n, Hid (rl.length = n) := ⟨_, rfl⟩
  rw [HN.out] at hown hn1 hn4 ⊢
  have HO1 : Hid (w1.ownsRow w.heap.size 31 2 (.slice (some ⟨g, 0, none⟩) n c) n (regsV rl)) := hown
  have HD1 : Hid (Drawn w w1 C B a len cap) := hD
  clear hok hown hD HCu HCo
  go_wp2_with fail
  refine (below28 C B a len cap n (by omega) (by omega) _ HD1.out.1 hB HD1.out.2.1).mono ?_
  rintro e w2 ⟨k0, rfl, k0a, k0b, hD⟩
  obtain ⟨k, rfl⟩ := Int.eq_ofNat_of_zero_le k0a
  have hkl : k < rl.length := by have := HN.out; omega
  have HD2 : Hid (Drawn w w2 C B a len cap) := drawn_trans HD1.out hD
  have HO2 : Hid (w2.ownsRow w.heap.size 31 2 (.slice (some ⟨g, 0, none⟩) n c) n (regsV rl)) := own_gr HO1.out hD.2.2 hlt
  clear hD HD1 HO1
  go_wp2_with fail
  refine (below28 C B a len cap 12 (by omega) (by omega) _ HD2.out.1 hB HD2.out.2.1).mono ?_
  rintro e w3 ⟨y, rfl, y0, y1, hD⟩
  have HD3 : Hid (Drawn w w3 C B a len cap) := drawn_trans HD2.out hD
  have HO3 : Hid (w3.ownsRow w.heap.size 31 2 (.slice (some ⟨g, 0, none⟩) n c) n (regsV rl)) := own_gr HO2.out hD.2.2 hlt
  have s3 := HD3.out.2.2.size
  have lg := own_lt HO3.out g rfl
  clear hD HD2 HO2
  by_cases h0 : (y == 0) = true
  · have HDa : Hid (∀ o, Drawn w (w3.alloc o) C B a len cap) := fun o => drawn_alloc HD3.out (by omega) o
    have HOa : Hid (∀ o, (w3.alloc o).ownsRow w.heap.size 31 2 (.slice (some ⟨g, 0, none⟩) n c) n (regsV rl)) := fun o => HO3.out.alloc o
    have HLI : Hid _ := laid_ints w3 [-1, 0, 63, 64, -9223372036854775808]
    go_wp2_with fail
    refine (pick26' C B a len cap [-1, 0, 63, 64, -9223372036854775808] 5 _ _ rfl (by omega) (by omega) _ (HDa.out _).1 hB (HDa.out _).2.1 (by omega) (by simp) HLI.out).mono ?_
    rintro e w4 ⟨z, rfl, hz, hD⟩
    have HD4 : Hid (Drawn w w4 C B a len cap) := drawn_trans (HDa.out _) hD
    have HO4 : Hid (w4.ownsRow w.heap.size 31 2 (.slice (some ⟨g, 0, none⟩) n c) n (regsV rl)) := own_gr (HOa.out _) hD.2.2 hlt
    have hc := (own_atR HO4.out hkl).1
    have hfz := HO4.out.frozenAt (k * 2)
    have HO5 : Hid ((w4.setCell ⟨g, k * 2, none⟩ (.int .i64 z)).ownsRow w.heap.size 31 2 (.slice (some ⟨g, 0, none⟩) n c) n (regsV (rl.set k (z, rl[k].2)))) := by
      have := (HO4.out.stored (k * 2) (.int .i64 z)).1
      rw [regsV_set0 rl k hkl] at this
      exact this
    have HD5 : Hid (Drawn w (w4.setCell ⟨g, k * 2, none⟩ (.int .i64 z)) C B a len cap) := drawn_put HD4.out _ _ hg hlt hB
    have HL5 : Hid ((rl.set k (z, rl[k].2)).length = n) := by show _ = _; rw [List.length_set]; exact HN.out
    generalize rl[k].1 = old at hc
    clear hD hz HDa HOa HLI HD3 HO3 HD4 HO4
    go_wp2
    go_ret
    exact ⟨_, rl.set k (z, rl[k].2), rfl, by rw [HL5.out]; omega, by rw [HL5.out]; exact HO5.out, HD5.out⟩
  · have h0' : (y == 0) = false := by simpa using h0
    clear h0
    by_cases h1 : (y == 1) = true
    · have HDa : Hid (∀ o, Drawn w (w3.alloc o) C B a len cap) := fun o => drawn_alloc HD3.out (by omega) o
      have HOa : Hid (∀ o, (w3.alloc o).ownsRow w.heap.size 31 2 (.slice (some ⟨g, 0, none⟩) n c) n (regsV rl)) := fun o => HO3.out.alloc o
      have HLI : Hid _ := laid_ints w3 [0, 64, 65, 9223372036854775807]
      go_wp2_with fail
      refine (pick26' C B a len cap [0, 64, 65, 9223372036854775807] 4 _ _ rfl (by omega) (by omega) _ (HDa.out _).1 hB (HDa.out _).2.1 (by omega) (by simp) HLI.out).mono ?_
      rintro e w4 ⟨z, rfl, hz, hD⟩
      have HD4 : Hid (Drawn w w4 C B a len cap) := drawn_trans (HDa.out _) hD
      have HO4 : Hid (w4.ownsRow w.heap.size 31 2 (.slice (some ⟨g, 0, none⟩) n c) n (regsV rl)) := own_gr (HOa.out _) hD.2.2 hlt
      have hc := (own_atR HO4.out hkl).2
      have hfz := HO4.out.frozenAt (k * 2 + 1)
      have HO5 : Hid ((w4.setCell ⟨g, k * 2 + 1, none⟩ (.int .i64 z)).ownsRow w.heap.size 31 2 (.slice (some ⟨g, 0, none⟩) n c) n (regsV (rl.set k (rl[k].1, z)))) := by
        have := (HO4.out.stored (k * 2 + 1) (.int .i64 z)).1
        rw [regsV_set1 rl k hkl] at this
        exact this
      have HD5 : Hid (Drawn w (w4.setCell ⟨g, k * 2 + 1, none⟩ (.int .i64 z)) C B a len cap) := drawn_put HD4.out _ _ hg hlt hB
      have HL5 : Hid ((rl.set k (rl[k].1, z)).length = n) := by show _ = _; rw [List.length_set]; exact HN.out
      generalize rl[k].2 = old at hc
      clear hD hz HDa HOa HLI HD3 HO3 HD4 HO4
      go_wp2
      go_ret
      exact ⟨_, rl.set k (rl[k].1, z), rfl, by rw [HL5.out]; omega, by rw [HL5.out]; exact HO5.out, HD5.out⟩
    · have h1' : (y == 1) = false := by simpa using h1
      clear h1
      by_cases h2 : (y == 2) = true
      · have hc := own_atR HO3.out hkl
        obtain ⟨f, hf⟩ : ∃ f, rl[k].1 = f := ⟨_, rfl⟩
        obtain ⟨s, hs⟩ : ∃ s, rl[k].2 = s := ⟨_, rfl⟩
        rw [hf, hs] at hc
        clear hf hs
        have hown := HO3.out.alloc (.cells #[.int .i64 f, .int .i64 s] 31)
        go_wp2_with (at_builtin; refine wpList_append_own _ rfl _ _ 44 rfl w.heap.size 31 i0 (.agg #[.int .i64 0, .int .i64 0]) 2 16 Try.underlying44 hi hz0 hz1 hz2 rfl (by decide) _ _ _ rfl hown ⟨w3.heap.size, 0, none⟩ 1 1 [.int .i64 f, .int .i64 s] rfl rfl ?c1 ?c2 ?c3 ?c4 ?c5 ?_)
        case c1 => exact two_cellR _ _ _ _ rfl
        case c2 => intro u hu; simp at hu; rcases hu with rfl | rfl <;> rfl
        case c3 => unfold maxLen; omega
        case c4 => omega
        case c5 => simp; omega
        intro v' w5 hown5 hgrow _
        have HD5 : Hid (Drawn w w5 C B a len cap) := drawn_grown (drawn_alloc HD3.out (by omega) _) hgrow (own_ge HO3.out) hlt (by omega)
        obtain ⟨q', c', hv⟩ := own_shape hown5
        subst hv
        have HL5 : Hid ((rl ++ [(f, s)]).length = n + 1) := by show _ = _; simp; exact HN.out
        have HO5 : Hid (w5.ownsRow w.heap.size 31 2 (.slice q' (n + 1) c') (n + 1) (regsV (rl ++ [(f, s)]))) := by
          rw [regsV_append]
          exact hown5
        clear hown hown5 hgrow HD3 HO3
        go_wp2
        go_ret
        exact ⟨_, rl ++ [(f, s)], rfl, by rw [HL5.out]; omega, by rw [HL5.out]; exact HO5.out, HD5.out⟩
      · have h2' : (y == 2) = false := by simpa using h2
        clear h2
        by_cases h3 : (y == 3) = true
        · have HO5 : Hid (World.ownsRow _ _ _ _ _ _ _) := own_emptyR w3 w.heap.size s3
          have HD5 : Hid (Drawn w (w3.alloc (.cells #[] 31)) C B a len cap) := drawn_alloc HD3.out (by omega) _
          clear HD3 HO3
          go_wp2
          go_ret
          exact ⟨_, [], rfl, by simp, HO5.out, HD5.out⟩
        · have h3' : (y == 3) = false := by simpa using h3
          clear h3
          go_wp2
          go_ret
          exact ⟨_, rl, rfl, by rw [HN.out]; omega, by rw [HN.out]; exact HO3.out, HD3.out⟩

theorem onceR (C B : Nat) (a : Option Addr) (len cap : Nat) (n : Int) (h0 : 0 < n) (h1 : n ≤ 256) (w : World) (hC : Cur w C a len cap) (hB : B ≤ C) (hcode : CodeOk w B a len) :
    Calls Try.prog 57 #[.pointer (some ⟨C, 0, none⟩), .int .i64 n] w fun e w' => ∃ b : Bool, e = .returned (.bool b) ∧ Drawn w w' C B a len cap := by
  have HCu : Hid (Cur w C a len cap) := hC
  have HCo : Hid (CodeOk w B a len) := hcode
  clear hC hcode
  go_enter Try.func57, Try.ntmps57
  go_wp2_with fail
  refine (below28 C B a len cap n h0 (by omega) _ HCu.out hB HCo.out).mono ?_
  rintro e w1 ⟨x, rfl, x0, x1, hD⟩
  have HD : Hid (Drawn w w1 C B a len cap) := hD
  clear hD HCu HCo
  go_wp2
  go_ret
  exact ⟨_, rfl, HD.out⟩

set_option maxRecDepth 100000 in
set_option maxHeartbeats 1000000 in
theorem regionR (C B : Nat) (a : Option Addr) (len cap : Nat) (w : World) (hC : Cur w C a len cap) (hB : B ≤ C) (hcode : CodeOk w B a len) :
    Calls Try.prog 53 #[.pointer (some ⟨C, 0, none⟩)] w fun e w' => ∃ f s : Int, e = .returned (.agg #[.int .i64 f, .int .i64 s]) ∧ Drawn w w' C B a len cap := by
  have hlt := cur_lt hC
  have HD0 : Hid (Drawn w (w.alloc (.cells #[.int .i64 0, .int .i64 0] 31)) C B a len cap) := drawn_alloc ⟨hC, hcode, World.grownBy.refl _ _⟩ (by omega) _
  have HZ0 : Hid ((w.alloc (.cells #[.int .i64 0, .int .i64 0] 31)).heap[w.heap.size]? = some (.cells #[.int .i64 0, .int .i64 0] 31)) := heap_new w _
  clear hC hcode
  go_enter Try.func53, Try.ntmps53
  go_wp2_with fail
  refine (anyR C B a len cap _ HD0.out.1 hB HD0.out.2.1).mono ?_
  rintro e w1 ⟨v, rl, rfl, h5, hown, hD⟩
  obtain ⟨q, c, hv, hnc, _, hrd⟩ := own_rdR hown
  subst hv
  obtain ⟨n, HN⟩ : ∃ n, Hid (rl.length = n) := ⟨_, rfl⟩
  rw [HN.out] at h5 ⊢
  have HO : Hid (w1.ownsRow _ 31 2 (.slice q rl.length c) rl.length (regsV rl)) := hown
  have HD1 : Hid (Drawn w w1 C B a len cap) := drawn_trans HD0.out hD
  have HZ1 : Hid (w1.heap[w.heap.size]? = _) := row_drawn HZ0.out hD.2.2 (by omega)
  clear hown hrd hD HD0 HZ0
  by_cases h0 : n = 0
  · subst h0
    have kz := row2_cells HZ1.out
    have hb : (((0 : Nat) : Int) == 0) = true := by decide
    go_wp2
    refine bodyPost_ret (v := .agg #[.int .i64 0, .int .i64 0]) (by simp [results, Try.results53, go_sem, kz]) rfl ⟨0, 0, rfl, ?_⟩
    exact drawn_put (drawn_put HD1.out 0 _ (Nat.le_refl _) hlt hB) 1 _ (Nat.le_refl _) hlt hB
  · have hb : ((n : Int) == 0) = false := by simp; omega
    have hb2 : ¬ (n : Int) = 0 := by omega
    go_wp2_with fail
    refine (below28 C B a len cap n (by omega) (by omega) _ HD1.out.1 hB HD1.out.2.1).mono ?_
    rintro e w2 ⟨k0, rfl, k0a, k0b, hD⟩
    obtain ⟨k, rfl⟩ := Int.eq_ofNat_of_zero_le k0a
    have hkl : k < rl.length := by have := HN.out; omega
    have hD2 := drawn_trans HD1.out hD
    obtain ⟨g, rfl, hg⟩ := own_addr HO.out (by omega)
    have hc := own_atR (own_gr HO.out hD.2.2 (by simp; omega)) hkl
    have HD2 : Hid (Drawn w w2 C B a len cap) := hD2
    have kz := row2_cells (row_drawn HZ1.out hD.2.2 (by omega))
    generalize rl[k].1 = f at hc
    generalize rl[k].2 = s at hc
    clear hD hD2 HD1 HZ1
    go_wp2
    refine bodyPost_ret (v := .agg #[.int .i64 f, .int .i64 s]) (by simp [results, Try.results53, go_sem, kz]) rfl ⟨f, s, rfl, ?_⟩
    exact drawn_put (drawn_put HD2.out 0 _ (Nat.le_refl _) hlt hB) 1 _ (Nat.le_refl _) hlt hB
end Go.Proofs.Ytelhnoepkfojkaa
