/-
  Drawn code whose jumps go forward.
-/
import Derived.Test.YthnocibkgpofnaaDrawO7
import Derived.Test.YthnocibkgpofnaaDrawM
import Derived.Test.YthnocibkgpofnaaFwd
namespace Go.Proofs.Ythnocibkgpofnaa.I
open D
open Go.RowKit Go.PlainAid
set_option linter.unusedVariables false

theorem regsV_set1 : ∀ (rl : List (Int × Int)) (j : Nat) (h : j < rl.length) (s : Int), (regsV rl).set (j * 2 + 1) (.int .i64 s) = regsV (rl.set j (rl[j].1, s))
  | [], j, h, s => by simp at h
  | r :: t, 0, h, s => by simp [regsV]
  | r :: t, j + 1, h, s => by
    have := regsV_set1 t j (by simpa using h) s
    rw [show (j + 1) * 2 = j * 2 + 1 + 1 by omega]
    simpa [regsV] using this
theorem own_atI {w : World} {B n g c j : Nat} {rl : List (Int × Int)} (h : w.ownsRow B 51 2 (.slice (some ⟨g, 0, none⟩) n c) n (regsV rl)) (hj : j < rl.length) : w.cell? ⟨g, j * 2, none⟩ = some (.int .i64 rl[j].1) ∧ w.cell? ⟨g, j * 2 + 1, none⟩ = some (.int .i64 rl[j].2) := by
  have hc := h.cells rfl
  have ha := regsV_at rl j hj
  have h1 := hc _ _ ha.1
  have h2 := hc _ _ ha.2
  rw [add_at, Nat.zero_add] at h1 h2
  exact ⟨h1, h2⟩
theorem ownI_of {w : World} {B n : Nat} {v : Value} {ys : List (Int × Int)} (h : w.ownsRow B 51 2 v n (regsV ys)) (hl : ys.length = n) : OwnI w B v ys := by
  unfold OwnI; rw [hl]; exact h
theorem drawn_on {w W W' : World} {C B : Nat} {a : Option Addr} {len cap : Nat} (h : Drawn w W C B a len cap) (hb : Below W.heap.size W W') (hB : B ≤ W.heap.size) : Drawn w W' C B a len cap := by
  obtain ⟨⟨j, x, hj, hc⟩, hcode, hg⟩ := h
  refine ⟨⟨j, x, hj, row_after hc hb (row_lt hc)⟩, code_below hcode (hb.mono hB), grown_trans hg ⟨hb.os, hb.tape, hb.output, hb.size, fun k hk _ => hb.block k hk⟩⟩
theorem loop_step {ys : List (Int × Int)} {i : Nat} {t : Int} (h : RtL ys ∧ FwdTo ys i) (hi : i < ys.length) (ht : (i : Int) < t) (hb : isB t) : RtL (ys.set i (ys[i].1, t)) ∧ FwdTo (ys.set i (ys[i].1, t)) (i + 1) := by
  refine ⟨fun p hp => ?_, fun k hk hlt => ?_⟩
  · rcases List.mem_or_eq_of_mem_set hp with hp | rfl
    · exact h.1 p hp
    · exact ⟨(h.1 _ (List.getElem_mem hi)).1, hb⟩
  · rw [List.length_set] at hk
    rw [List.getElem_set]
    by_cases e : i = k
    · subst e; rw [if_pos rfl]; exact fun _ => ht
    · rw [if_neg e]; exact h.2 k hk (by omega)

set_option maxRecDepth 100000 in
set_option maxHeartbeats 4000000 in
theorem code7D (C B : Nat) (a : Option Addr) (len cap : Nat) (W : World) (hC : Cur W C a len cap) (hB : B ≤ C) (hcode : CodeOk W B a len) :
    Calls Try.prog 42 #[.pointer (some ⟨C, 0, none⟩)] W fun e w' => ∃ (g n c : Nat) (ys : List (Int × Int)), e = .returned (.slice (some ⟨g, 0, none⟩) n c) ∧ ys.length = n ∧ n ≤ 46 ∧ OwnI w' W.heap.size (.slice (some ⟨g, 0, none⟩) n c) ys ∧ Drawn W w' C B a len cap := by
  obtain ⟨i0, hi, hz0, hz1, hz2⟩ := info_parts infoR
  have hlt := cur_lt hC
  have HD0 : Hid (Drawn W (W.alloc (.cells #[] 51)) C B a len cap) := drawn_alloc ⟨hC, hcode, World.grownBy.refl _ _⟩ (by omega) _
  have HO0 : Hid (OwnI (W.alloc (.cells #[] 51)) W.heap.size (.slice (some ⟨W.heap.size, 0, none⟩) 0 0) []) := ownI_empty W
  clear hC hcode
  go_enter Try.func42, Try.ntmps42

  go_wp2_with fail
  refine (codeD C B a len cap _ HD0.out.1 hB HD0.out.2.1).mono ?_
  rintro e w1 ⟨v, xs, rfl, hxl, hrt, hvn, hox, hD⟩
  obtain ⟨gx, cx, hv⟩ := own_nn hox hvn
  subst hv
  have HRT : Hid (RtL xs) := hrt
  have HD1 : Hid (Drawn W w1 C B a len cap) := drawn_trans HD0.out hD
  have hown : w1.ownsRow W.heap.size 51 2 (.slice (some ⟨W.heap.size, 0, none⟩) 0 0) 0 (regsV []) := own_gr HO0.out hD.2.2 hlt
  have hnews : ∀ j u, (regsV xs)[j]? = some u → w1.cell? ((⟨gx, 0, none⟩ : Addr).add j) = some u := World.ownsRow.cells hox rfl
  have s1 := HD1.out.2.2.size
  clear hD HD0 HO0 hvn hrt
  go_wp2_with (at_builtin; refine wpList_append_own _ rfl _ _ 32 rfl W.heap.size 51 i0 (.agg #[.int .i64 0, .int .i64 0]) 2 16 Try.underlying32 hi hz0 hz1 hz2 rfl (by decide) _ _ _ rfl hown ⟨gx, 0, none⟩ xs.length cx (regsV xs) rfl (regsV_len xs) hnews (regsV_one xs) ?c3 ?c4 ?c5 ?_)
  case c3 => unfold maxLen; omega
  case c4 => omega
  case c5 => omega
  intro v2 w2 hown2 hgrow hnil
  have HV2 : v2 ≠ .slice none 0 0 := by first | exact hnil | exact fun e => by have := (hnil.1 e).1; cases this
  obtain ⟨n, hnn⟩ : ∃ n, xs.length = n := ⟨_, rfl⟩
  obtain ⟨g, c, hv2⟩ := own_nn (xs := xs) hown2 HV2
  rw [hnn] at hv2
  subst hv2
  have HO2 : Hid (OwnI w2 W.heap.size (.slice (some ⟨g, 0, none⟩) n c) xs) := hown2
  have HD2 : Hid (Drawn W w2 C B a len cap) := drawn_grown HD1.out hgrow (own_ge hown) hlt (by omega)
  have HLN : Hid (xs.length = n) := hnn
  have hn46 : n ≤ 46 := by omega
  have hgW : W.heap.size ≤ g := own_ge HO2.out g rfl
  clear hown hown2 hgrow hnews hox HD1 hnil HV2 hnn hxl
  go_wp2
  go_loopg [4] n (fun gk iv wr => ∃ (i : Nat) (ys : List (Int × Int)), i + gk = n ∧ iv = .int .i64 i ∧ Hid (ys.length = n) ∧ Hid (OwnI wr W.heap.size (.slice (some ⟨g, 0, none⟩) n c) ys) ∧ Hid (Drawn W wr C B a len cap))
  case atStart => exact ⟨0, xs, by omega, rfl, HLN, HO2, HD2⟩
  case round =>
    clear HLN HO2 HD2 HRT
    obtain ⟨i, ys, hig, rfl, HLN, HO, HD⟩ := hrel
    by_cases hin : i < n
    · have hil : i < ys.length := by have := HLN.out; omega
      have HO' : Hid (wr.ownsRow W.heap.size 51 2 (.slice (some ⟨g, 0, none⟩) n c) n (regsV ys)) := by have h := HO.out; unfold OwnI at h; rw [HLN.out] at h; exact h
      obtain ⟨f, hf⟩ : ∃ f, ys[i].1 = f := ⟨_, rfl⟩
      obtain ⟨s, hs⟩ : ∃ s, ys[i].2 = s := ⟨_, rfl⟩
      have HFS : Hid (ys[i].1 = f ∧ ys[i].2 = s) := ⟨hf, hs⟩
      have k1 := own_atI HO'.out hil
      rw [hf, hs] at k1
      clear hf hs
      have hi1 : (i : Int) < (n : Int) := by omega
      obtain ⟨d, hd⟩ := goes_bool f
      have HGD : Hid (d = true ↔ goes f) := hd
      clear hd
      go_wp2_with fail
      refine (goesS f s d HGD.out _).mono ?_
      rintro e w3 ⟨rfl, hb3⟩
      have HD3 : Hid (Drawn W w3 C B a len cap) := drawn_on HD.out hb3 (by have := HD.out.2.2.size; omega)
      have HO3 : Hid (w3.ownsRow W.heap.size 51 2 (.slice (some ⟨g, 0, none⟩) n c) n (regsV ys)) := own_keep HO'.out hb3 (own_lt HO'.out)
      clear hb3 HD HO HO' k1
      cases d
      · skip
        go_wp2
        go_roundg (gk - 1)
        case measure => omega
        case rel => exact ⟨i + 1, ys, by omega, by go_num, HLN, ownI_of HO3.out HLN.out, HD3⟩
      · go_wp2_with fail
        refine (onceR C B a len cap 12 (by omega) (by omega) _ HD3.out.1 hB HD3.out.2.1).mono ?_
        rintro e w4 ⟨b, rfl, hD⟩
        have HD4 : Hid (Drawn W w4 C B a len cap) := drawn_trans HD3.out hD
        have HO4 : Hid (w4.ownsRow W.heap.size 51 2 (.slice (some ⟨g, 0, none⟩) n c) n (regsV ys)) := own_gr HO3.out hD.2.2 hlt
        clear hD HD3 HO3
        cases b
        · go_wp2_with fail
          refine (below28 C B a len cap 5 (by omega) (by omega) _ HD4.out.1 hB HD4.out.2.1).mono ?_
          rintro e w5 ⟨z, rfl, z0, z1, hD⟩
          have HD5 : Hid (Drawn W w5 C B a len cap) := drawn_trans HD4.out hD
          have HO5 : Hid (w5.ownsRow W.heap.size 51 2 (.slice (some ⟨g, 0, none⟩) n c) n (regsV ys)) := own_gr HO4.out hD.2.2 hlt
          obtain ⟨t, ht⟩ : ∃ t : Int, (i : Int) + 1 + z = t := ⟨_, rfl⟩
          have kc := (own_atI HO5.out hil).2
          have kf := HO5.out.frozenAt (i * 2 + 1)
          have HO6 : Hid ((w5.setCell ⟨g, i * 2 + 1, none⟩ (.int .i64 t)).ownsRow W.heap.size 51 2 (.slice (some ⟨g, 0, none⟩) n c) n (regsV (ys.set i (ys[i].1, t)))) := by
            have := (HO5.out.stored (i * 2 + 1) (.int .i64 t)).1
            rw [regsV_set1 ys i hil] at this
            exact this
          have HD6 : Hid (Drawn W (w5.setCell ⟨g, i * 2 + 1, none⟩ (.int .i64 t)) C B a len cap) := drawn_put HD5.out _ _ hgW hlt hB
          have HL6 : Hid ((ys.set i (ys[i].1, t)).length = n) := by show _ = _; rw [List.length_set]; exact HLN.out
        
          generalize ys[i].2 = old at kc
          generalize hYS : ys.set i (ys[i].1, t) = ys' at *
          clear hD HD4 HO4 HD5 HO5 hYS
          go_wp2
          go_roundg (gk - 1)
          case measure => omega
          case rel => exact ⟨i + 1, ys', by omega, by go_num, HL6, ownI_of HO6.out HL6.out, HD6⟩
        · go_wp2
          go_roundg (gk - 1)
          case measure => omega
          case rel => exact ⟨i + 1, ys, by omega, by go_num, HLN, ownI_of HO4.out HLN.out, HD4⟩
    · go_wp2
      go_ret
      exact ⟨g, n, c, ys, rfl, HLN.out, hn46, HO.out, HD.out⟩

set_option maxRecDepth 100000 in
set_option maxHeartbeats 4000000 in
theorem drawLoopless (a : Option Addr) (len cap : Nat) (w : World) (hcode : CodeOk w w.heap.size a len) :
    Calls Try.prog 17 #[.slice a len cap] w fun e w' => ∃ (g n c : Nat) (ys : List (Int × Int)), e = .returned (.slice (some ⟨g, 0, none⟩) n c) ∧ ys.length = n ∧ n ≤ 46 ∧ FwdR ys ∧ OwnI w' w.heap.size (.slice (some ⟨g, 0, none⟩) n c) ys ∧ Below w.heap.size w w' := by
  obtain ⟨i0, hi, hz0, hz1, hz2⟩ := info_parts infoR
  have HCO : Hid (CodeOk w w.heap.size a len) := hcode
  clear hcode
  go_enter Try.func17, Try.ntmps17
  go_wp2_with fail
  refine (new23 w.heap.size a len cap _ HCO.out (Nat.le_refl _)).mono ?_
  rintro e W ⟨C, rfl, hC0, hcurW, hcodeW, hbW⟩
  have hB : w.heap.size ≤ C := hC0
  have HBW : Hid (Below w.heap.size w W) := hbW
  have hlt := cur_lt hcurW
  have HD0 : Hid (Drawn W (W.alloc (.cells #[] 51)) C w.heap.size a len cap) := drawn_alloc ⟨hcurW, hcodeW, World.grownBy.refl _ _⟩ (by omega) _
  have HO0 : Hid (OwnI (W.alloc (.cells #[] 51)) W.heap.size (.slice (some ⟨W.heap.size, 0, none⟩) 0 0) []) := ownI_empty W
  clear hC0 hcurW hcodeW hbW HCO

  go_wp2_with fail
  refine (codeD C w.heap.size a len cap _ HD0.out.1 hB HD0.out.2.1).mono ?_
  rintro e w1 ⟨v, xs, rfl, hxl, hrt, hvn, hox, hD⟩
  obtain ⟨gx, cx, hv⟩ := own_nn hox hvn
  subst hv
  have HRT : Hid (RtL xs) := hrt
  have HD1 : Hid (Drawn W w1 C w.heap.size a len cap) := drawn_trans HD0.out hD
  have hown : w1.ownsRow W.heap.size 51 2 (.slice (some ⟨W.heap.size, 0, none⟩) 0 0) 0 (regsV []) := own_gr HO0.out hD.2.2 hlt
  have hnews : ∀ j u, (regsV xs)[j]? = some u → w1.cell? ((⟨gx, 0, none⟩ : Addr).add j) = some u := World.ownsRow.cells hox rfl
  have s1 := HD1.out.2.2.size
  clear hD HD0 HO0 hvn hrt
  go_wp2_with (at_builtin; refine wpList_append_own _ rfl _ _ 32 rfl W.heap.size 51 i0 (.agg #[.int .i64 0, .int .i64 0]) 2 16 Try.underlying32 hi hz0 hz1 hz2 rfl (by decide) _ _ _ rfl hown ⟨gx, 0, none⟩ xs.length cx (regsV xs) rfl (regsV_len xs) hnews (regsV_one xs) ?c3 ?c4 ?c5 ?_)
  case c3 => unfold maxLen; omega
  case c4 => omega
  case c5 => omega
  intro v2 w2 hown2 hgrow hnil
  have HV2 : v2 ≠ .slice none 0 0 := by first | exact hnil | exact fun e => by have := (hnil.1 e).1; cases this
  obtain ⟨n, hnn⟩ : ∃ n, xs.length = n := ⟨_, rfl⟩
  obtain ⟨g, c, hv2⟩ := own_nn (xs := xs) hown2 HV2
  rw [hnn] at hv2
  subst hv2
  have HO2 : Hid (OwnI w2 W.heap.size (.slice (some ⟨g, 0, none⟩) n c) xs) := hown2
  have HD2 : Hid (Drawn W w2 C w.heap.size a len cap) := drawn_grown HD1.out hgrow (own_ge hown) hlt (by omega)
  have HLN : Hid (xs.length = n) := hnn
  have hn46 : n ≤ 46 := by omega
  have hgW : W.heap.size ≤ g := own_ge HO2.out g rfl
  clear hown hown2 hgrow hnews hox HD1 hnil HV2 hnn hxl
  go_wp2
  go_loopg [5] n (fun gk iv wr => ∃ (i : Nat) (ys : List (Int × Int)), i + gk = n ∧ iv = .int .i64 i ∧ Hid (ys.length = n) ∧ Hid (OwnI wr W.heap.size (.slice (some ⟨g, 0, none⟩) n c) ys) ∧ Hid (Drawn W wr C w.heap.size a len cap) ∧ Hid (RtL ys ∧ FwdTo ys i))
  case atStart => exact ⟨0, xs, by omega, rfl, HLN, HO2, HD2, ⟨HRT.out, fwd_zero xs⟩⟩
  case round =>
    clear HLN HO2 HD2 HRT
    obtain ⟨i, ys, hig, rfl, HLN, HO, HD, HP⟩ := hrel
    by_cases hin : i < n
    · have hil : i < ys.length := by have := HLN.out; omega
      have HO' : Hid (wr.ownsRow W.heap.size 51 2 (.slice (some ⟨g, 0, none⟩) n c) n (regsV ys)) := by have h := HO.out; unfold OwnI at h; rw [HLN.out] at h; exact h
      obtain ⟨f, hf⟩ : ∃ f, ys[i].1 = f := ⟨_, rfl⟩
      obtain ⟨s, hs⟩ : ∃ s, ys[i].2 = s := ⟨_, rfl⟩
      have HFS : Hid (ys[i].1 = f ∧ ys[i].2 = s) := ⟨hf, hs⟩
      have k1 := own_atI HO'.out hil
      rw [hf, hs] at k1
      clear hf hs
      have hi1 : (i : Int) < (n : Int) := by omega
      obtain ⟨d, hd⟩ := goes_bool f
      have HGD : Hid (d = true ↔ goes f) := hd
      clear hd
      go_wp2_with fail
      refine (goesS f s d HGD.out _).mono ?_
      rintro e w3 ⟨rfl, hb3⟩
      have HD3 : Hid (Drawn W w3 C w.heap.size a len cap) := drawn_on HD.out hb3 (by have := HD.out.2.2.size; omega)
      have HO3 : Hid (w3.ownsRow W.heap.size 51 2 (.slice (some ⟨g, 0, none⟩) n c) n (regsV ys)) := own_keep HO'.out hb3 (own_lt HO'.out)
      clear hb3 HD HO HO' k1
      cases d
      · have HP3 : Hid (RtL ys ∧ FwdTo ys (i + 1)) := ⟨HP.out.1, fwd_succ HP.out.2 hil (fun h => by rw [HFS.out.1] at h; have := HGD.out.2 h; cases this)⟩
        go_wp2
        go_roundg (gk - 1)
        case measure => omega
        case rel => exact ⟨i + 1, ys, by omega, by go_num, HLN, ownI_of HO3.out HLN.out, HD3, HP3⟩
      · go_wp2_with fail
        refine (below28 C w.heap.size a len cap 5 (by omega) (by omega) _ HD3.out.1 hB HD3.out.2.1).mono ?_
        rintro e w5 ⟨z, rfl, z0, z1, hD⟩
        have HD5 : Hid (Drawn W w5 C w.heap.size a len cap) := drawn_trans HD3.out hD
        have HO5 : Hid (w5.ownsRow W.heap.size 51 2 (.slice (some ⟨g, 0, none⟩) n c) n (regsV ys)) := own_gr HO3.out hD.2.2 hlt
        obtain ⟨t, ht⟩ : ∃ t : Int, (i : Int) + 1 + z = t := ⟨_, rfl⟩
        have kc := (own_atI HO5.out hil).2
        have kf := HO5.out.frozenAt (i * 2 + 1)
        have HO6 : Hid ((w5.setCell ⟨g, i * 2 + 1, none⟩ (.int .i64 t)).ownsRow W.heap.size 51 2 (.slice (some ⟨g, 0, none⟩) n c) n (regsV (ys.set i (ys[i].1, t)))) := by
          have := (HO5.out.stored (i * 2 + 1) (.int .i64 t)).1
          rw [regsV_set1 ys i hil] at this
          exact this
        have HD6 : Hid (Drawn W (w5.setCell ⟨g, i * 2 + 1, none⟩ (.int .i64 t)) C w.heap.size a len cap) := drawn_put HD5.out _ _ hgW hlt hB
        have HL6 : Hid ((ys.set i (ys[i].1, t)).length = n) := by show _ = _; rw [List.length_set]; exact HLN.out
      
        have HP6 : Hid (RtL (ys.set i (ys[i].1, t)) ∧ FwdTo (ys.set i (ys[i].1, t)) (i + 1)) := loop_step HP.out hil (by omega) ⟨by omega, by omega⟩
        generalize ys[i].2 = old at kc
        generalize hYS : ys.set i (ys[i].1, t) = ys' at *
        clear hD HD3 HO3 HD5 HO5 hYS
        go_wp2
        go_roundg (gk - 1)
        case measure => omega
        case rel => exact ⟨i + 1, ys', by omega, by go_num, HL6, ownI_of HO6.out HL6.out, HD6, HP6⟩
    · have HFW : Hid (FwdR ys) := ⟨⟨by have := HLN.out; omega, fun k hk => HP.out.1 _ (List.getElem_mem hk)⟩, fun k hk => HP.out.2 k hk (by have := HLN.out; omega)⟩
      have HBL : Hid (Below w.heap.size w wr) := drawn_below HBW.out hB HD.out
      have HOW : Hid (OwnI wr w.heap.size (.slice (some ⟨g, 0, none⟩) n c) ys) := HO.out.mono HBW.out.size
      go_wp2
      go_ret
      exact ⟨g, n, c, ys, rfl, HLN.out, hn46, HFW.out, HOW.out, HBL.out⟩
end Go.Proofs.Ythnocibkgpofnaa.I
