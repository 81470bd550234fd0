/-
  The contract of the specification's Assemble.
-/
import Derived.Test.YtbcphgmcjickgaaDoorAsm5
namespace Go.Proofs.YtbcphgmcjickgaaDoor
open Go.RowKit Plain Go.PlainAid
open Go.Lib (decDigits itoa indexByte)
set_option linter.unusedVariables false

theorem lines_size {s : ByteArray} : ∀ x ∈ linesOf s, x.size ≤ s.size := fun x hx => by
  have h := linesA_size s.data.toList [] x hx
  rw [Array.length_toList] at h
  have e : s.data.size = s.size := rfl
  simp at h
  omega

set_option maxRecDepth 100000 in
set_option maxHeartbeats 8000000 in
theorem assembleS (s : ByteArray) (hs : s.size ≤ 1048576) (res : List (Int × Int) × Nat) (hr : AsmR (linesOf s) 1 [] res) (w : World) :
    Calls Tryd.prog 14 #[.string s] w fun e w' => ∃ v, e = .returned (.tuple #[v, .int .i64 (res.2 : Int)]) ∧ OwnI w' w.heap.size v res.1 ∧ Below w.heap.size w w' := by
  obtain ⟨i0, hi, hz0, hz1, hz2⟩ := info_parts infoR
  have HR : Hid (AsmR (linesOf s) 1 [] res) := hr
  have HLS : Hid (∀ x ∈ linesOf s, x.size ≤ s.size) := lines_size
  clear hr
  go_enter Tryd.func14, Tryd.ntmps14
  go_wp2_with fail
  refine (linesS s hs _).mono ?_
  rintro e w1 ⟨vl, rfl, hown, hln, hb1⟩
  have HB1 : Hid (Below w.heap.size w w1) := hb1
  obtain ⟨al, cl, hvl, hcl⟩ := own_strs hown
  subst hvl
  have HCL : Hid (0 < (linesOf s).length → ∃ g, al = some ⟨g, 0, none⟩ ∧ g < w1.heap.size ∧ ∀ j x, (linesOf s)[j]? = some x → w1.cell? ⟨g, j, none⟩ = some (.string x)) := hcl
  clear hcl hown hb1
  obtain ⟨LL, hLL⟩ : ∃ LL, linesOf s = LL := ⟨_, rfl⟩
  rw [hLL] at HR HLS HCL hln ⊢
  clear hLL
  have HO0 : Hid (OwnI (w1.alloc (.cells #[] 51)) w1.heap.size (.slice (some ⟨w1.heap.size, 0, none⟩) 0 0) []) := ownI_empty w1
  have HW0 : Hid (Below w1.heap.size w1 (w1.alloc (.cells #[] 51))) := (Below.refl _ _).alloc (Nat.le_refl _) _
  go_wp2
  go_loopg [5, 6] LL.length (fun gk v iv wr => ∃ (i : Nat) (out : List (Int × Int)), i + gk = LL.length ∧ iv = .int .i64 i ∧ out.length ≤ 60 ∧ Hid (AsmR (LL.drop i) (i + 1) out res) ∧ Hid (OwnI wr w1.heap.size v out) ∧ Hid (Below w1.heap.size w1 wr))
  case atStart => exact ⟨0, [], by omega, rfl, by simp, HR, HO0, HW0⟩
  case round =>
    clear HR HO0 HW0
    obtain ⟨k, out, hk, rfl, hout, HA, HO, HW⟩ := hrel
    by_cases hlt : k < LL.length
    · obtain ⟨g, hal, hg, hcell⟩ := HCL.out (by omega)
      subst hal
      have hx : LL[k]? = some LL[k] := List.getElem?_eq_getElem hlt
      have cl1 := (HW.out.cell (p := ⟨g, k, none⟩) hg).trans (hcell k _ hx)
      have HLX : Hid (LL[k].size ≤ s.size) := HLS.out _ (List.getElem_mem hlt)
      have HA2 : Hid (AsmR (LL[k] :: LL.drop (k + 1)) (k + 1) out res) := by have := HA.out; rw [List.drop_eq_getElem_cons hlt] at this; exact this
      generalize LL[k] = l at *
      have hl2 : l.size ≤ 1048576 := by have := HLX.out; omega
      obtain ⟨qv, cv, hv, _⟩ := HO.out.rd
      subst hv
      have HO2 : Hid (OwnI wr w1.heap.size (.slice qv out.length cv) out) := HO.out
      clear hx hcell HA HLX HO
      go_wp2_with fail
      refine (parts4 l hl2 _).mono ?_
      rintro e w3 ⟨vp, L, b, rfl, hP, hown, hb3⟩
      have HO3 : Hid (OwnI w3 w1.heap.size (.slice qv out.length cv) out) := HO2.out.on hb3
      have HW3 : Hid (Below w1.heap.size w1 w3) := bel_on (Nat.le_refl _) HW.out hb3
      have HP : Hid (Parts l L b) := hP
      have hps := parts_size hP
      have HPS : Hid (∀ x ∈ L, x.size ≤ l.size) := hps.2
      have hL10 := hps.1
      have HOP : Hid (w3.ownsRow wr.heap.size 9 1 vp L.length (strV L)) := hown
      have s3 := HW3.out.size
      have s1 := HB1.out.size
      obtain ⟨ap, cp, hvp, _⟩ := own_form hown
      subst hvp
      clear hb3 hP hps hown HO2 HW cl1
      by_cases h0 : b = true ∧ L = []
      · obtain ⟨rfl, rfl⟩ := h0
        have HA3 : Hid (AsmR (LL.drop (k + 1)) (k + 1 + 1) out res) := asm_skip HA2.out ⟨[], true, HP.out, .inl ⟨rfl, rfl, rfl⟩⟩
        clear HA2 HP HOP HPS
        go_wp2
        go_roundg (gk - 1)
        case measure => omega
        case rel => exact ⟨k + 1, out, by omega, by go_num, hout, HA3, HO3, HW3⟩
      · obtain ⟨q, hq⟩ := insR_ex L
        have HQ : Hid (InsR L q) := hq
        have HLn : Hid (LineR l (some q)) := ⟨L, b, HP.out, .inr ⟨h0, q, hq, rfl⟩⟩
        cases b
        · have hnil : L = [] := by rcases HP.out with ⟨h, _⟩ | ⟨_, h, _⟩; · cases h
                                   · exact h
          subst hnil
          obtain rfl : q = none := insR_one HQ.out insR_nil
          have HE : Hid (res = ([], k + 1)) := asm_bad HA2.out HLn.out
          have HF : Hid (Below w.heap.size w (w3.alloc (.cells #[] 51))) := (HB1.out.trans (HW3.out.mono HB1.out.size)).alloc (by omega) _
          have HOE : Hid (OwnI (w3.alloc (.cells #[] 51)) w.heap.size (.slice (some ⟨w3.heap.size, 0, none⟩) 0 0) []) := (ownI_empty w3).mono (by omega)
          clear HA2 HLn HO3 HP HOP HPS HQ h0 hq
          go_wp2
          go_ret2
          exact ⟨_, by rw [HE.out]; rfl, by rw [HE.out]; exact HOE.out, HF.out⟩
        · have hpos : 0 < L.length := List.length_pos_iff.2 (fun e => h0 ⟨rfl, e⟩)
          have hlen' : ((L.length : Int) == 0) = false := by rw [beq_eq_false_iff_ne]; omega
          clear h0 hq HP
          go_wp2_with fail
          refine (lineS wr.heap.size L (.slice ap L.length cp) (fun x hx => by have := HPS.out x hx; omega) hpos hL10 q HQ.out _ HOP.out).mono ?_
          rintro e w4 ⟨f, sa, rfl, hpq, hb4⟩
          have HPQ : Hid (∀ p, q = some p → p = (f, sa)) := hpq
          have HO4 : Hid (OwnI w4 w1.heap.size (.slice qv out.length cv) out) := HO3.out.on hb4
          have HW4 : Hid (Below w1.heap.size w1 w4) := bel_on (Nat.le_refl _) HW3.out hb4
          have s4 := HW4.out.size
          clear hpq hb4 HO3 HW3 HOP HPS HQ hlen'
          cases q with
          | none =>
            have HE : Hid (res = ([], k + 1)) := asm_bad HA2.out HLn.out
            have HF : Hid (Below w.heap.size w ((w4.alloc (.cells #[.int .i64 f, .int .i64 sa] 51)).alloc (.cells #[] 51))) := ((HB1.out.trans (HW4.out.mono HB1.out.size)).alloc (by omega) _).alloc (by simp; omega) _
            have HOE : Hid (OwnI ((w4.alloc (.cells #[.int .i64 f, .int .i64 sa] 51)).alloc (.cells #[] 51)) w.heap.size (.slice (some ⟨w4.heap.size + 1, 0, none⟩) 0 0) []) := by
              have h := (ownI_empty (w4.alloc (.cells #[.int .i64 f, .int .i64 sa] 51))).mono (C := w.heap.size) (by simp; omega)
              have e : (w4.alloc (.cells #[.int .i64 f, .int .i64 sa] 51)).heap.size = w4.heap.size + 1 := by simp
              rw [e] at h
              exact h
            clear HA2 HLn HO4
            go_wp2
            go_ret2
            exact ⟨_, by rw [HE.out]; rfl, by rw [HE.out]; exact HOE.out, HF.out⟩
          | some p =>
            have hpp := HPQ.out p rfl
            by_cases h60 : out.length = 60
            · have HE : Hid (res = ([], k + 1)) := asm_full HA2.out HLn.out h60
              have HF : Hid (Below w.heap.size w ((w4.alloc (.cells #[.int .i64 f, .int .i64 sa] 51)).alloc (.cells #[] 51))) := ((HB1.out.trans (HW4.out.mono HB1.out.size)).alloc (by omega) _).alloc (by simp; omega) _
              have HOE : Hid (OwnI ((w4.alloc (.cells #[.int .i64 f, .int .i64 sa] 51)).alloc (.cells #[] 51)) w.heap.size (.slice (some ⟨w4.heap.size + 1, 0, none⟩) 0 0) []) := by
                have h := (ownI_empty (w4.alloc (.cells #[.int .i64 f, .int .i64 sa] 51))).mono (C := w.heap.size) (by simp; omega)
                have e : (w4.alloc (.cells #[.int .i64 f, .int .i64 sa] 51)).heap.size = w4.heap.size + 1 := by simp
                rw [e] at h
                exact h
              have h60' : ((out.length : Int) == 60) = true := by simp; omega
              clear HA2 HLn HO4 hpp h60
              go_wp2
              go_ret2
              exact ⟨_, by rw [HE.out]; rfl, by rw [HE.out]; exact HOE.out, HF.out⟩
            · have HA4 : Hid (AsmR (LL.drop (k + 1)) (k + 1 + 1) (out ++ [(f, sa)]) res) := by have := asm_on HA2.out HLn.out h60; rw [hpp] at this; exact this
              have h60' : ((out.length : Int) == 60) = false := by simp; omega
              have hown : w4.ownsRow w1.heap.size 51 2 _ out.length (regsV out) := HO4.out
              have ho59 : out.length ≤ 59 := by omega
              clear HA2 HLn hpp h60
              go_wp2_with (at_builtin; refine wpList_append_own _ rfl _ _ 24 rfl w1.heap.size 51 i0 (.agg #[.int .i64 0, .int .i64 0]) 2 16 Tryd.underlying24 hi hz0 hz1 hz2 rfl (by decide) _ _ _ rfl ((hown.alloc _).alloc _) ⟨w4.heap.size + 1, 0, none⟩ 1 1 [.int .i64 f, .int .i64 sa] rfl rfl ?c1 ?c2 ?c3 ?c4 ?c5 ?_)
              case c1 => exact two_cellR _ _ _ _ (by simp)
              case c2 => intro u hu; simp at hu; rcases hu with rfl | rfl <;> rfl
              case c3 => unfold maxLen; omega
              case c4 => omega
              case c5 => simp; omega
              intro v' w5 hown5 hgrow _
              have R := rel_insO ((HW4.out.alloc s4 _).alloc (by simp; omega) _) (by simp; omega) (Nat.le_refl _) HO4.out hown5 hgrow rfl
              have HR5 : Hid (_ ∧ _) := R
              clear R hown5 hgrow hown HO4 HW4
              go_wp2
              go_roundg (gk - 1)
              case measure => omega
              case rel => exact ⟨k + 1, out ++ [(f, sa)], by omega, by go_num, by simp; omega, HA4, HR5.out.1, HR5.out.2⟩
    · have HE : Hid (res = (out, 0)) := by have := HA.out; rw [List.drop_eq_nil_of_le (by omega)] at this; exact this
      have HF : Hid (Below w.heap.size w wr) := HB1.out.trans (HW.out.mono HB1.out.size)
      have HOF : Hid (OwnI wr w.heap.size _ out) := HO.out.mono HB1.out.size
      clear HA HO HW
      go_wp2
      go_ret2
      exact ⟨_, by rw [HE.out]; rfl, by rw [HE.out]; exact HOF.out, HF.out⟩
end Go.Proofs.YtbcphgmcjickgaaDoor
