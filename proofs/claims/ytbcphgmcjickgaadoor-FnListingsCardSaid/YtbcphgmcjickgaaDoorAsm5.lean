/-
  The contract of the program's Assemble.
-/
import Derived.Test.YtbcphgmcjickgaaDoorAsm4
import Derived.Test.YtbcphgmcjickgaaDoorOwnI
namespace Go.Proofs.YtbcphgmcjickgaaDoor
open Go.RowKit Plain Go.PlainAid
open Go.Lib (decDigits itoa indexByte)
set_option linter.unusedVariables false

theorem vF_size (s : ByteArray) : ∀ (f b i : Nat), ∀ x ∈ vF s f b i, x.size ≤ s.size
  | 0, b, i, x, h => by
    unfold vF word at h
    split at h
    · have : x = s.extract b i := by simpa using h
      rw [this, ByteArray.size_extract]; omega
    · cases h
  | f + 1, b, i, x, h => by
    unfold vF at h
    split at h
    · rcases List.mem_append.1 h with h | h
      · unfold word at h
        split at h
        · have : x = s.extract b i := by simpa using h
          rw [this, ByteArray.size_extract]; omega
        · cases h
      · exact vF_size s f (i + 1) (i + 1) x h
    · exact vF_size s f b (i + 1) x h
theorem parts_size {s : ByteArray} {L : List ByteArray} {b : Bool} (h : Parts s L b) : L.length ≤ 10 ∧ ∀ x ∈ L, x.size ≤ s.size := by
  rcases h with ⟨_, _, _, h4, rfl⟩ | ⟨_, rfl, _⟩
  · exact ⟨h4, fun x hx => vF_size s _ 0 0 x hx⟩
  · exact ⟨by simp, fun x hx => by cases hx⟩
theorem not_empty {T : ByteArray} (h : 0 < T.size) : T.toList.isEmpty = false := by
  rw [ByteArray.toList_eq]
  cases e : T.data.toList with
  | nil =>
    have h2 : T.data.toList.length = 0 := by rw [e]; rfl
    rw [Array.length_toList] at h2
    have h3 : T.size = 0 := h2
    omega
  | cons x y => rfl
theorem empty_of {T : ByteArray} (h : ¬ 0 < T.size) : T = ⟨#[]⟩ := by
  apply ba_list
  have h2 : T.data.toList.length = 0 := by rw [Array.length_toList]; have : T.data.size = T.size := rfl; omega
  rw [List.length_eq_zero_iff.1 h2]
theorem rel_insO {w wr W1 w1 : World} {v v' : Value} {xs : List (Int × Int)} {f s : Int} {n B : Nat} (hW : Below w.heap.size w W1) (hB : B ≤ W1.heap.size) (hwB : w.heap.size ≤ B) (hown : OwnI wr B v xs)
    (hown' : w1.ownsRow B 51 2 v' n (regsV xs ++ [.int .i64 f, .int .i64 s])) (hgrow : W1.grownBy w1 v.ownBlock) (hn : n = xs.length + 1) :
    OwnI w1 B v' (xs ++ [(f, s)]) ∧ Below w.heap.size w w1 := by
  refine ⟨?_, hW.grown hgrow (Nat.le_trans hwB hB) (fun k hk => Nat.le_trans hwB (own_ge hown k hk))⟩
  subst hn
  unfold OwnI
  rw [regsV_append, List.length_append]
  exact hown'

set_option maxRecDepth 100000 in
set_option maxHeartbeats 8000000 in
theorem assembleI (s : ByteArray) (hs : s.size ≤ 1048576) (res : List (Int × Int) × Nat) (hr : AsmR (linesOf s) 1 [] res) (w : World) (ht : TabA w) :
    Calls Tryd.prog 12 #[.string s] w fun e w' => ∃ v, e = .returned (.tuple #[v, .int .i64 (res.2 : Int)]) ∧ OwnI w' w.heap.size v res.1 ∧ Below w.heap.size w w' := by
  obtain ⟨i0, hi, hz0, hz1, hz2⟩ := info_parts infoR
  have HR : Hid (AsmR (linesOf s) 1 [] res) := hr
  have HT : Hid (TabA w) := ht
  clear hr ht
  go_enter Tryd.func12, Tryd.ntmps12
  go_wp2_with fail
  refine (opsI _ HT.out.2).mono ?_
  rintro e w1 ⟨M, rfl, hMw, hM, hb1⟩
  have HM : Hid (OpsK w1 M 18) := hM
  have HB1 : Hid (Below w.heap.size w w1) := hb1
  have HT1 : Hid (TabA w1) := tabA_below HT.out hb1
  clear hM hb1 HT
  go_wp2
  go_loopg [0, 5, 6] (s.size + 1) (fun gk tv v nv wr => ∃ (T : ByteArray) (out : List (Int × Int)) (k : Nat), T.size < gk ∧ 1 ≤ k ∧ T.size + k ≤ s.size + 1 ∧ tv = .string T ∧ nv = .int .i64 k ∧ out.length ≤ 60 ∧ Hid (AsmR (linesOf T) k out res) ∧ Hid (OwnI wr w1.heap.size v out) ∧ Hid (Below w1.heap.size w1 wr))
  case atStart => exact ⟨s, [], 1, by omega, by omega, by omega, rfl, rfl, by simp, HR, ownI_nil _ _, Below.refl _ _⟩
  case round =>
    clear HR
    obtain ⟨T, out, k, hT1, hk1, hT2, rfl, rfl, hout, HA, HO, HW⟩ := hrel
    by_cases hp : 0 < T.size
    · have hne := not_empty hp
      obtain ⟨qv, cv, hv, _⟩ := HO.out.rd
      subst hv
      go_wp2_with fail
      refine (cutI T (by omega) hp _).mono ?_
      rintro e w2 ⟨l, r, ff, rfl, hlr, hl2, hr2, hb2⟩
      have HA2 : Hid (AsmR (l :: linesOf r) k out res) := by have := HA.out; rw [hlr] at this; exact this
      have HO2 : Hid (OwnI w2 w1.heap.size (.slice qv out.length cv) out) := HO.out.on hb2
      have HW2 : Hid (Below w1.heap.size w1 w2) := bel_on (Nat.le_refl _) HW.out hb2
      clear hlr hb2 HA HO HW hne
      go_wp2_with fail
      refine (parts5 l (by omega) _).mono ?_
      rintro e w3 ⟨vp, L, b, rfl, hP, hown, hb3⟩
      have HO3 : Hid (OwnI w3 w1.heap.size (.slice qv out.length cv) out) := HO2.out.on hb3
      have HW3 : Hid (Below w1.heap.size w1 w3) := bel_on (Nat.le_refl _) HW2.out hb3
      have HP : Hid (Parts l L b) := hP
      have hps := parts_size hP
      have HPS : Hid (∀ x ∈ L, x.size ≤ l.size) := hps.2
      have hL10 := hps.1
      have HOP : Hid (w3.ownsRow w2.heap.size 9 1 vp L.length (strV L)) := hown
      obtain ⟨ap, cp, hvp, _⟩ := own_form hown
      subst hvp
      clear hb3 hP hps hown HO2 HW2
      by_cases h0 : b = true ∧ L = []
      · obtain ⟨rfl, rfl⟩ := h0
        have HA3 : Hid (AsmR (linesOf r) (k + 1) out res) := asm_skip HA2.out ⟨[], true, HP.out, .inl ⟨rfl, rfl, rfl⟩⟩
        clear HA2 HP HOP HPS
        go_wp2
        go_roundg (gk - 1)
        case measure => omega
        case rel => exact ⟨r, out, k + 1, by omega, by omega, by omega, rfl, by go_num, hout, HA3, HO3, HW3⟩
      · obtain ⟨q, hq⟩ := insR_ex L
        have HQ : Hid (InsR L q) := hq
        have HLn : Hid (LineR l (some q)) := ⟨L, b, HP.out, .inr ⟨h0, q, hq, rfl⟩⟩
        have hlen : b = true → ((L.length : Int) == 0) = false := fun hb => by
          have : L ≠ [] := fun e => h0 ⟨hb, e⟩
          have := List.length_pos_iff.2 this
          simp
          omega
        have HM3 : Hid (OpsK w3 M 18) := HM.out.on HW3.out
        have HT3 : Hid (Tab w3) := (tabA_below HT1.out HW3.out).1
        clear h0 hq HP
        go_upto_region 9 with fail
        go_cut [32] (fun v wc => v = .bool false ∧ wc = w3)
        case first =>
          cases b
          · go_wp2
            go_meet
            exact ⟨rfl, rfl⟩
          · have hlen' := hlen rfl
            go_wp2
            go_meet
            exact ⟨rfl, rfl⟩
        case rest =>
        obtain ⟨rfl, hwc⟩ := hcut
        subst hwc
        clear hlen
        go_wp2_with fail
        refine (instrI M w2.heap.size L (.slice ap L.length cp) (fun x hx => by have := HPS.out x hx; omega) hL10 q HQ.out _ HOP.out HM3.out HT3.out).mono ?_
        rintro e w4 ⟨f, sa, rfl, hpq, hb4⟩
        have HPQ : Hid (∀ p, q = some p → p = (f, sa)) := hpq
        have HO4 : Hid (OwnI w4 w1.heap.size (.slice qv out.length cv) out) := HO3.out.on hb4
        have HW4 : Hid (Below w1.heap.size w1 w4) := bel_on (Nat.le_refl _) HW3.out hb4
        have s4 := HW4.out.size
        have s1 := HB1.out.size
        clear hpq hb4 HO3 HW3 HOP HM3 HT3 HPS HQ
        cases q with
        | none =>
          have HE : Hid (res = ([], k)) := asm_bad HA2.out HLn.out
          have HF : Hid (Below w.heap.size w (w4.alloc (.cells #[.int .i64 f, .int .i64 sa] 51))) := (HB1.out.trans (HW4.out.mono HB1.out.size)).alloc (by omega) _
          clear HA2 HLn HO4
          go_wp2
          go_ret2
          exact ⟨_, by rw [HE.out]; rfl, by rw [HE.out]; exact ownI_nil _ _, HF.out⟩
        | some p =>
          have hpp := HPQ.out p rfl
          by_cases h60 : out.length = 60
          · have HE : Hid (res = ([], k)) := asm_full HA2.out HLn.out h60
            have HF : Hid (Below w.heap.size w (w4.alloc (.cells #[.int .i64 f, .int .i64 sa] 51))) := (HB1.out.trans (HW4.out.mono HB1.out.size)).alloc (by omega) _
            have h60' : ((out.length : Int) == 60) = true := by simp; omega
            clear HA2 HLn HO4 hpp h60
            go_wp2
            go_ret2
            exact ⟨_, by rw [HE.out]; rfl, by rw [HE.out]; exact ownI_nil _ _, HF.out⟩
          · have HA4 : Hid (AsmR (linesOf r) (k + 1) (out ++ [(f, sa)]) res) := by have := asm_on HA2.out HLn.out h60; rw [hpp] at this; exact this
            have h60' : ((out.length : Int) == 60) = false := by simp; omega
            have hown : w4.ownsRow w1.heap.size 51 2 _ out.length (regsV out) := HO4.out
            have ho59 : out.length ≤ 59 := by omega
            clear HA2 HLn hpp h60
            go_wp2_with (at_builtin; refine wpList_append_own _ rfl _ _ 24 rfl w1.heap.size 51 i0 (.agg #[.int .i64 0, .int .i64 0]) 2 16 Tryd.underlying24 hi hz0 hz1 hz2 rfl (by decide) _ _ _ rfl ((hown.alloc _).alloc _) ⟨w4.heap.size + 1, 0, none⟩ 1 1 [.int .i64 f, .int .i64 sa] rfl rfl ?c1 ?c2 ?c3 ?c4 ?c5 ?_)
            case c1 => exact two_cellR _ _ _ _ (by simp)
            case c2 => intro u hu; simp at hu; rcases hu with rfl | rfl <;> rfl
            case c3 => unfold maxLen; omega
            case c4 => omega
            case c5 => simp; omega
            intro v' w5 hown5 hgrow _
            have R := rel_insO ((HW4.out.alloc s4 _).alloc (by simp; omega) _) (by simp; omega) (Nat.le_refl _) HO4.out hown5 hgrow rfl
            have HR5 : Hid (_ ∧ _) := R
            clear R hown5 hgrow hown HO4 HW4
            go_wp2
            go_roundg (gk - 1)
            case measure => omega
            case rel => exact ⟨r, out ++ [(f, sa)], k + 1, by omega, by omega, by omega, rfl, by go_num, by simp; omega, HA4, HR5.out.1, HR5.out.2⟩
    · obtain rfl := empty_of hp
      have HE : Hid (res = (out, 0)) := by have := HA.out; rw [lines_nil (by omega)] at this; exact this
      have HF : Hid (Below w.heap.size w wr) := HB1.out.trans (HW.out.mono HB1.out.size)
      have HOF : Hid (OwnI wr w.heap.size _ out) := HO.out.mono HB1.out.size
      clear HA HO HW
      go_wp2
      go_ret2
      exact ⟨_, by rw [HE.out]; rfl, by rw [HE.out]; exact HOF.out, HF.out⟩
end Go.Proofs.YtbcphgmcjickgaaDoor
