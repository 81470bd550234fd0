/-
  FnSenses over bytes that are few enough.
-/
import Derived.Test.YthjfbookeldpaaaDoorDrawSn
import Derived.Test.YthjfbookeldpaaaDoorRow
namespace Go.Proofs.YthjfbookeldpaaaDoor
open Go.RowKit Go.PlainAid
set_option linter.unusedVariables false

theorem look_name_fin : ∀ i : Fin 16, lookV (nameN (i.val : Int)) = ((i.val : Int), true) := by decide +kernel
theorem look_name (x : Int) (h : 0 ≤ x ∧ x ≤ 15) : lookV (nameN x) = (x, true) := by
  have h := look_name_fin ⟨x.toNat, by omega⟩
  have e1 : ((x.toNat : Nat) : Int) = x := by omega
  simp only [e1] at h
  exact h
/-- the sum of the first k senses that are in it -/
def part (x : Int) : Nat → Int
  | 0 => 0
  | k + 1 => part x k + (if hasB x ((2 ^ k : Nat) : Int) then ((2 ^ k : Nat) : Int) else 0)
theorem part_fin : ∀ i : Fin 16, part (i.val : Int) 4 = (i.val : Int) ∧ hasB (i.val : Int) 3 = false := by decide +kernel
theorem part_eq (x : Int) (h : 0 ≤ x ∧ x ≤ 15) : part x 4 = x ∧ hasB x 3 = false := by
  have h := part_fin ⟨x.toNat, by omega⟩
  have e1 : ((x.toNat : Nat) : Int) = x := by omega
  simp only [e1] at h
  exact h
theorem part_bd (x : Int) (k : Nat) (hk : k < 5) : 0 ≤ part x k ∧ part x k ≤ 100 := by
  have h : k = 0 ∨ k = 1 ∨ k = 2 ∨ k = 3 ∨ k = 4 := by omega
  have e : ∀ (b : Bool) (n : Int), 0 ≤ n → 0 ≤ (if b then n else 0) ∧ (if b then n else 0) ≤ n := fun b n hn => by cases b <;> simp [hn]
  have a0 := e (hasB x ((2 ^ 0 : Nat) : Int)) ((2 ^ 0 : Nat) : Int) (by decide)
  have a1 := e (hasB x ((2 ^ 1 : Nat) : Int)) ((2 ^ 1 : Nat) : Int) (by decide)
  have a2 := e (hasB x ((2 ^ 2 : Nat) : Int)) ((2 ^ 2 : Nat) : Int) (by decide)
  have a3 := e (hasB x ((2 ^ 3 : Nat) : Int)) ((2 ^ 3 : Nat) : Int) (by decide)
  rcases h with rfl | rfl | rfl | rfl | rfl
  all_goals simp only [part]
  all_goals omega

theorem code_on {w w' : World} {a : Option Addr} {len : Nat} (h : CodeOk w w.heap.size a len) (hb : Below w.heap.size w w') : CodeOk w' w'.heap.size a len := by
  have h2 := code_below h hb
  refine ⟨h2.1, fun hp => ?_⟩
  obtain ⟨b, off, ha, hlt, hc⟩ := h2.2 hp
  exact ⟨b, off, ha, Nat.lt_of_lt_of_le hlt hb.size, hc⟩
set_option maxRecDepth 100000 in
set_option maxHeartbeats 2000000 in
theorem senses_in (a : Option Addr) (len cap : Nat) (hb : len ≤ 1048576) (w : World) (hcode : CodeOk w w.heap.size a len) (ht : TabS w) :
    Calls Tryd.prog 3 #[.slice a len cap] w fun e w' => e = .returned (.bool true) ∧ Below w.heap.size w w' := by
  have HC : Hid (CodeOk w w.heap.size a len) := hcode
  have HT : Hid (TabS w) := ht
  clear hcode ht
  go_enter Tryd.func3, Tryd.ntmps3
  go_wp2_with fail
  refine (big5 a len cap (by omega) _).mono ?_
  rintro e w1 ⟨rfl, rfl⟩
  rw [decide_eq_false (by omega)]
  go_wp2_with fail
  refine (places7 w1.heap.size a len cap _ HC.out (Nat.le_refl _)).mono ?_
  rintro e w2 ⟨g, cp, p0, p1, p2, p3, rfl, hp0, _, _, _, hg, c0, _, _, _, _, hb2⟩
  have HB2 : Hid (Below w1.heap.size w1 w2) := hb2
  clear hb2
  obtain ⟨x, hx⟩ : ∃ x, p0 % 16 = x := ⟨_, rfl⟩
  have hx' : p0.tmod 16 = x := by rw [Int.tmod_eq_emod_of_nonneg hp0.1]; exact hx
  have x0 : 0 ≤ x ∧ x ≤ 15 := by omega
  clear hp0
  go_wp2_with fail
  refine (sNamesI x _ (tabS_below HT.out HB2.out)).mono ?_
  rintro e w3 ⟨rfl, hb3⟩
  have HB3 : Hid (Below w1.heap.size w1 w3) := bel_on (Nat.le_refl _) HB2.out hb3
  clear hb3 HB2 c0 hx hx' hg
  go_wp2_with fail
  refine (readI (nameN x) _ (tabS_below HT.out HB3.out)).mono ?_
  rintro e w4 ⟨rfl, hb4⟩
  have HB4 : Hid (Below w1.heap.size w1 w4) := bel_on (Nat.le_refl _) HB3.out hb4
  rw [look_name x x0]
  generalize nameN x = nx at *
  clear hb4 HB3
  go_wp2
  obtain ⟨HPX, h3⟩ := part_eq x x0
  have HW : Hid (Below w1.heap.size w1 (w4.alloc (.cells #[.int .i64 1, .int .i64 2, .int .i64 4, .int .i64 8] 3))) := HB4.out.alloc HB4.out.size _
  have e1 := heap_alloc_new w4 (.cells #[.int .i64 1, .int .i64 2, .int .i64 4, .int .i64 8] 3)
  have hg : w4.heap.size < (w4.alloc (.cells #[.int .i64 1, .int .i64 2, .int .i64 4, .int .i64 8] 3)).heap.size := by simp
  generalize World.alloc w4 _ = W at *
  generalize w4.heap.size = g at *
  have c0 : W.cell? ⟨g, 0, none⟩ = some (.int .i64 1) := by rw [cell_of_row _ _ 0 _ _ _ e1]; rfl
  have c1 : W.cell? ⟨g, 1, none⟩ = some (.int .i64 2) := by rw [cell_of_row _ _ 1 _ _ _ e1]; rfl
  have c2 : W.cell? ⟨g, 2, none⟩ = some (.int .i64 4) := by rw [cell_of_row _ _ 2 _ _ _ e1]; rfl
  have c3 : W.cell? ⟨g, 3, none⟩ = some (.int .i64 8) := by rw [cell_of_row _ _ 3 _ _ _ e1]; rfl
  clear e1 HB4
  go_loopw [7, 8] (fun s i wr => ∃ (k : Nat), k ≤ 4 ∧ i = .int .i64 k ∧ s = .int .i64 (part x k) ∧ Hid (Below W.heap.size W wr)) (fun _ i _ => 4 - (intOf i).toNat)
  case atStart => exact ⟨0, by decide, rfl, rfl, Below.refl _ _⟩
  case round =>
    obtain ⟨k, hk, rfl, rfl, HB7⟩ := hrel
    have hk5 : k = 4 ∨ k = 0 ∨ k = 1 ∨ k = 2 ∨ k = 3 := by omega
    clear hk
    by_cases h4 : k = 4
    · subst h4
      clear hk5 c0 c1 c2 c3
      rw [HPX]
      have HB8 : Hid (Below w1.heap.size w1 wr) := bel_on (Nat.le_refl _) HW.out HB7.out
      clear HB7 hg HPX
      go_wp2_with fail
      refine (drawSense a len cap _ (code_on HC.out HB8.out)).mono ?_
      rintro e w9 ⟨t, rfl, hb9⟩
      have HB9 : Hid (Below w1.heap.size w1 w9) := bel_on (Nat.le_refl _) HB8.out hb9
      clear hb9 HB8 HC HW
      go_wp2_with fail
      refine (readI t _ (tabS_below HT.out HB9.out)).mono ?_
      rintro e w10 ⟨rfl, hb10⟩
      have HB10 : Hid (Below w1.heap.size w1 w10) := bel_on (Nat.le_refl _) HB9.out hb10
      clear hb10 HB9
      go_wp2_with fail
      refine (readS t _).mono ?_
      rintro e w11 ⟨rfl, hb11⟩
      have HB11 : Hid (Below w1.heap.size w1 w11) := bel_on (Nat.le_refl _) HB10.out hb11
      clear hb11 HB10
      obtain ⟨r, b⟩ := lookV t
      go_wp2_with fail
      refine (senseI x true (decide_eq_true x0) _).mono ?_
      rintro e w12 ⟨rfl, hb12⟩
      have HB12 : Hid (Below w1.heap.size w1 w12) := bel_on (Nat.le_refl _) HB11.out hb12
      clear hb12 HB11
      go_wp2_with fail
      refine (senseI 16 false (by decide) _).mono ?_
      rintro e w13 ⟨rfl, hb13⟩
      have HB13 : Hid (Below w1.heap.size w1 w13) := bel_on (Nat.le_refl _) HB12.out hb13
      clear hb13 HB12
      go_wp2_with fail
      refine (sNamesI (-1) _ (tabS_below HT.out HB13.out)).mono ?_
      rintro e w14 ⟨rfl, hb14⟩
      rw [show nameN (-1) = ⟨#[]⟩ from rfl]
      have HB14 : Hid (Below w1.heap.size w1 w14) := bel_on (Nat.le_refl _) HB13.out hb14
      clear hb14 HB13
      go_wp2_with fail
      refine (hasI x 3 false h3 _).mono ?_
      rintro e w15 ⟨rfl, hb15⟩
      have HB15 : Hid (Below w1.heap.size w1 w15) := bel_on (Nat.le_refl _) HB14.out hb15
      clear hb15 HB14
      go_wp2
      go_ret
      exact ⟨rfl, HB15.out⟩
    · replace hk5 : k = 0 ∨ k = 1 ∨ k = 2 ∨ k = 3 := by omega
      clear h4 HC HT HW HPX h3
      have i0 := (HB7.out.cell (p := ⟨g, 0, none⟩) hg).trans c0
      have i1 := (HB7.out.cell (p := ⟨g, 1, none⟩) hg).trans c1
      have i2 := (HB7.out.cell (p := ⟨g, 2, none⟩) hg).trans c2
      have i3 := (HB7.out.cell (p := ⟨g, 3, none⟩) hg).trans c3
      rcases hk5 with rfl | rfl | rfl | rfl
      · have HF : Hid (part x 1 = part x 0 + (if hasB x 1 then 1 else 0)) := rfl
        have hp0 : 0 ≤ part x 0 ∧ part x 0 ≤ 100 := part_bd x 0 (by decide)
        generalize part x 0 = s at *
        go_wp2_with fail
        refine (hasI x 1 _ rfl _).mono ?_
        rintro e w8 ⟨rfl, hb8⟩
        have HB8 : Hid (Below W.heap.size W w8) := bel_on (Nat.le_refl _) HB7.out hb8
        clear hb8
        cases hb : hasB x 1
        · rw [hb] at HF
          have HE : Hid (part x 1 = s) := HF.out.trans (by simp)
          clear HF hb i0
          go_wp2
          go_roundw
          case rel => exact ⟨1, by decide, rfl, by rw [HE.out], HB8⟩
          case measure => simp [intOf]
        · rw [hb] at HF
          have HE : Hid (part x 1 = s + 1) := HF
          have j0 := (HB8.out.cell (p := ⟨g, 0, none⟩) hg).trans c0
          clear HF hb i0
          go_wp2
          go_roundw
          case rel => exact ⟨1, by decide, rfl, by rw [HE.out], HB8⟩
          case measure => simp [intOf]
      · have HF : Hid (part x 2 = part x 1 + (if hasB x 2 then 2 else 0)) := rfl
        have hp0 : 0 ≤ part x 1 ∧ part x 1 ≤ 100 := part_bd x 1 (by decide)
        generalize part x 1 = s at *
        go_wp2_with fail
        refine (hasI x 2 _ rfl _).mono ?_
        rintro e w8 ⟨rfl, hb8⟩
        have HB8 : Hid (Below W.heap.size W w8) := bel_on (Nat.le_refl _) HB7.out hb8
        clear hb8
        cases hb : hasB x 2
        · rw [hb] at HF
          have HE : Hid (part x 2 = s) := HF.out.trans (by simp)
          clear HF hb i1
          go_wp2
          go_roundw
          case rel => exact ⟨2, by decide, rfl, by rw [HE.out], HB8⟩
          case measure => simp [intOf]
        · rw [hb] at HF
          have HE : Hid (part x 2 = s + 2) := HF
          have j1 := (HB8.out.cell (p := ⟨g, 1, none⟩) hg).trans c1
          clear HF hb i1
          go_wp2
          go_roundw
          case rel => exact ⟨2, by decide, rfl, by rw [HE.out], HB8⟩
          case measure => simp [intOf]
      · have HF : Hid (part x 3 = part x 2 + (if hasB x 4 then 4 else 0)) := rfl
        have hp0 : 0 ≤ part x 2 ∧ part x 2 ≤ 100 := part_bd x 2 (by decide)
        generalize part x 2 = s at *
        go_wp2_with fail
        refine (hasI x 4 _ rfl _).mono ?_
        rintro e w8 ⟨rfl, hb8⟩
        have HB8 : Hid (Below W.heap.size W w8) := bel_on (Nat.le_refl _) HB7.out hb8
        clear hb8
        cases hb : hasB x 4
        · rw [hb] at HF
          have HE : Hid (part x 3 = s) := HF.out.trans (by simp)
          clear HF hb i2
          go_wp2
          go_roundw
          case rel => exact ⟨3, by decide, rfl, by rw [HE.out], HB8⟩
          case measure => simp [intOf]
        · rw [hb] at HF
          have HE : Hid (part x 3 = s + 4) := HF
          have j2 := (HB8.out.cell (p := ⟨g, 2, none⟩) hg).trans c2
          clear HF hb i2
          go_wp2
          go_roundw
          case rel => exact ⟨3, by decide, rfl, by rw [HE.out], HB8⟩
          case measure => simp [intOf]
      · have HF : Hid (part x 4 = part x 3 + (if hasB x 8 then 8 else 0)) := rfl
        have hp0 : 0 ≤ part x 3 ∧ part x 3 ≤ 100 := part_bd x 3 (by decide)
        generalize part x 3 = s at *
        go_wp2_with fail
        refine (hasI x 8 _ rfl _).mono ?_
        rintro e w8 ⟨rfl, hb8⟩
        have HB8 : Hid (Below W.heap.size W w8) := bel_on (Nat.le_refl _) HB7.out hb8
        clear hb8
        cases hb : hasB x 8
        · rw [hb] at HF
          have HE : Hid (part x 4 = s) := HF.out.trans (by simp)
          clear HF hb i3
          go_wp2
          go_roundw
          case rel => exact ⟨4, by decide, rfl, by rw [HE.out], HB8⟩
          case measure => simp [intOf]
        · rw [hb] at HF
          have HE : Hid (part x 4 = s + 8) := HF
          have j3 := (HB8.out.cell (p := ⟨g, 3, none⟩) hg).trans c3
          clear HF hb i3
          go_wp2
          go_roundw
          case rel => exact ⟨4, by decide, rfl, by rw [HE.out], HB8⟩
          case measure => simp [intOf]
end Go.Proofs.YthjfbookeldpaaaDoor
