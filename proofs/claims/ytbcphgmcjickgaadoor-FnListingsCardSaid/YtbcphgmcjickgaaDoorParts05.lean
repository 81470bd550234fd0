/-
  The contracts of PartsOf, the program's and the specification's.
-/
import Derived.Test.YtbcphgmcjickgaaDoorPSkip5
import Derived.Laws.DeepStrings4
namespace Go.Proofs.YtbcphgmcjickgaaDoor
open Go.RowKit Plain Go.PlainAid
set_option linter.unusedVariables false

/-- what an append of one text leaves -/
theorem rel_str {w W1 w1 wr : World} {v v' : Value} {xs : List ByteArray} {x : ByteArray} {n : Nat} (hW : Below w.heap.size w W1) (hB : w.heap.size ≤ W1.heap.size) (hown : wr.ownsRow w.heap.size 9 1 v xs.length (strV xs))
    (hown' : w1.ownsRow w.heap.size 9 1 v' n (strV xs ++ [.string x])) (hgrow : W1.grownBy w1 v.ownBlock) (hn : n = xs.length + 1) :
    w1.ownsRow w.heap.size 9 1 v' (xs ++ [x]).length (strV (xs ++ [x])) ∧ Below w.heap.size w w1 := by
  refine ⟨?_, hW.grown hgrow hB (own_ge hown)⟩
  subst hn
  rw [show strV (xs ++ [x]) = strV xs ++ [.string x] by simp [strV], List.length_append]
  exact hown'
theorem one_str (wr : World) (x : Value) (a : Addr) (ha : a = ⟨wr.heap.size, 0, none⟩) : ∀ j u, [x][j]? = some u → (wr.alloc (.cells #[x] 9)).cell? (a.add j) = some u := by
  intro j u hj
  subst ha
  match j, hj with
  | 0, hj => simp at hj; subst hj; simp [Addr.add]
theorem own_none (w : World) (B : Nat) : w.ownsRow B 9 1 (.slice none 0 0) ([] : List ByteArray).length (strV []) := World.ownsRow_nil _ _ _ _
theorem own_empty (w : World) : (w.alloc (.cells #[] 9)).ownsRow w.heap.size 9 1 (.slice (some ⟨w.heap.size, 0, none⟩) 0 0) ([] : List ByteArray).length (strV []) :=
  ⟨rfl, Or.inr ⟨_, 0, #[], rfl, Nat.le_refl _, by show (w.heap.push _)[w.heap.size]? = _; simp, Nat.le_refl _, by decide, rfl, rfl⟩⟩

/-- what a PartsOf leaves: a list that it owns, and whether there is one -/
def Done (s : ByteArray) (w : World) (e : Ending) (w' : World) : Prop := ∃ (v : Value) (L : List ByteArray) (b : Bool), e = .returned (.tuple #[v, .bool b]) ∧ Parts s L b ∧ w'.ownsRow w.heap.size 9 1 v L.length (strV L) ∧ Below w.heap.size w w'

set_option maxRecDepth 100000 in
set_option maxHeartbeats 1000000 in
theorem parts5 (s : ByteArray) (hs : s.size ≤ 1048576) (w : World) : Calls Tryd.prog 36 #[.string s] w (Done s w) := by
  obtain ⟨i0, hi, hz0, hz1, hz2⟩ := info_parts info9
  by_cases hl : 600 < s.size
  · have HP : Hid (Parts s [] false) := parts_no (fun h => by omega)
    go_enter Tryd.func36, Tryd.ntmps36
    go_wp2
    go_ret2
    exact ⟨_, [], false, rfl, HP.out, own_none _ _, Below.refl _ _⟩
  · by_cases hpl : Plainly s
    · have HPL : Hid (Plainly s) := hpl
      clear hpl
      go_enter Tryd.func36, Tryd.ntmps36
      go_wp2_with fail
      refine (plain9 s hs true (by simp [HPL.out]) _).mono ?_
      rintro e w1 ⟨rfl, rfl⟩
      go_wp2_with fail
      refine (skip10 s hs 0 (Nat.zero_le _) _).mono ?_
      rintro e w2 ⟨⟨k, rfl, _, hk, hkb, hV⟩, rfl⟩
      have HK : Hid (k < s.size → ¬ bt s k = 32) := hkb
      have HV : Hid (V s 0 0 = V s k k) := hV
      clear hkb hV
      go_wp2
      go_loopw [4, 5] (fun v i wr => ∃ (k : Nat) (xs : List ByteArray), k ≤ s.size ∧ i = .int .i64 k ∧ xs.length ≤ 10 ∧ Hid (k < s.size → ¬ bt s k = 32) ∧ Hid (V s 0 0 = xs ++ V s k k) ∧ wr.ownsRow w2.heap.size 9 1 v xs.length (strV xs) ∧ Below w2.heap.size w2 wr) (fun _ i _ => s.size - (intOf i).toNat)
      case atStart => exact ⟨k, [], hk, rfl, by simp, HK, HV, own_none _ _, Below.refl _ _⟩
      case round =>
        clear HK HV hk
        obtain ⟨k, xs, hk, rfl, hx, HK, HV, hown, hnx⟩ := hrel
        have hsz := hnx.size
        obtain ⟨ao, cap, hv, _⟩ := own_form hown
        subst hv
        by_cases hlt : k < s.size
        · have hkb := HK.out hlt
          by_cases h10 : xs.length = 10
          · have HP : Hid (Parts s [] false) := parts_no (fun h => by
              have h1 := h.2.2
              rw [HV.out, List.length_append] at h1
              have := V_ne hlt hkb
              omega)
            have ht : ((xs.length : Int) == 10) = true := by simp; omega
            clear hkb h10
            go_wp2
            go_ret2
            exact ⟨_, [], false, rfl, HP.out, own_none _ _, hnx⟩
          · have ht : ((xs.length : Int) == 10) = false := by simp; omega
            have HKB : Hid (¬ bt s k = 32) := hkb
            have hx9 : xs.length ≤ 9 := by omega
            clear hkb h10
            go_wp2_with fail
            refine (eop11 s hs k hlt HKB.out _).mono ?_
            rintro e w3 ⟨⟨q, rfl, hq1, hq2, hqV⟩, rfl⟩
            have HV2 : Hid (V s 0 0 = (xs ++ [s.extract k q]) ++ V s q q) := by have := HV.out; rw [hqV] at this; rw [this]; simp [Hid]
            clear hqV HV HK HKB
            go_wp2_with fail
            refine (clone12 (s.extract k q) _ (by rw [ByteArray.size_extract]; omega)).mono ?_
            rintro e w4 ⟨rfl, hb4⟩
            have hown4 := own_keep hown hb4 (own_lt hown)
            have hnx4 : Below w2.heap.size w2 w4 := hnx.trans (hb4.mono hsz)
            have hsz4 := hnx4.size
            go_wp2_with (at_builtin; refine wpList_append_own _ rfl _ _ 61 rfl w2.heap.size 9 i0 (.string ⟨#[]⟩) 1 16 Tryd.underlying61 hi hz0 hz1 hz2 rfl (by decide) _ _ _ rfl (hown4.alloc _) ⟨w4.heap.size, 0, none⟩ 1 1 [.string (s.extract k q)] rfl rfl ?c1 ?c2 ?c3 ?c4 ?c5 ?_)
            case c1 => exact one_str w4 _ _ rfl
            case c2 => intro u hu; simp at hu; subst hu; rfl
            case c3 => unfold maxLen; omega
            case c4 => omega
            case c5 => simp; omega
            intro v' w5 hown5 hgrow _
            have R := rel_str (x := s.extract k q) (hnx4.alloc hsz4 _) (by simp; omega) hown4 hown5 hgrow rfl
            clear hown5 hgrow hown4 hown hb4 hnx
            go_wp2_with fail
            refine (skip10 s hs q hq2 _).mono ?_
            rintro e w6 ⟨⟨p, rfl, hp1, hp2, hpb, hpV⟩, rfl⟩
            have HK3 : Hid (p < s.size → ¬ bt s p = 32) := hpb
            have HV3 : Hid (V s 0 0 = (xs ++ [s.extract k q]) ++ V s p p) := by have := HV2.out; rw [hpV] at this; exact this
            clear hpb hpV HV2
            go_wp2
            go_roundw
            case rel => exact ⟨p, xs ++ [s.extract k q], hp2, rfl, by simp; omega, HK3, HV3, R.1, R.2⟩
            case measure => simp [intOf]; omega
        · have HP : Hid (Parts s xs true) := parts_yes (by omega) HPL.out (by rw [HV.out, V_last hlt]; simp) hx
          go_wp2
          go_ret2
          exact ⟨_, xs, true, rfl, HP.out, hown, hnx⟩
    · have HP : Hid (Parts s [] false) := parts_no (fun h => hpl h.2.1)
      have HN : Hid (¬ Plainly s) := hpl
      clear hpl
      go_enter Tryd.func36, Tryd.ntmps36
      go_wp2_with fail
      refine (plain9 s hs false (by simp [HN.out]) _).mono ?_
      rintro e w1 ⟨rfl, rfl⟩
      go_wp2
      go_ret2
      exact ⟨_, [], false, rfl, HP.out, own_none _ _, Below.refl _ _⟩
end Go.Proofs.YtbcphgmcjickgaaDoor
