/-
  The bytes of code: the contract of the specification's CodeText.
-/
import Derived.Test.YtadbekhekggpkaaDoorBytesX
namespace Go.Proofs.YtadbekhekggpkaaDoor.I
open Go.RowKit Go.PlainAid
set_option linter.unusedVariables false

set_option maxRecDepth 100000 in
set_option maxHeartbeats 2000000 in
theorem codetextS (a : Option Addr) (rl : List (Int × Int)) (n cap : Nat) (b : Bool) (hl : rl.length = n) (hn : n ≤ 9223372036854775807) (hb : b = true ↔ CodeR rl) (w : World) (hr : RdR w a rl) :
    Calls Tryd.prog 48 #[.slice a n cap] w fun e w' => e = .returned (ctV rl b) ∧ Below w.heap.size w w' := by
  obtain ⟨i0, hi, hz0, hz1, hz2⟩ := info_parts info5
  cases b
  · go_enter Tryd.func48, Tryd.ntmps48
    go_wp2_with fail
    refine (codeokS a rl n cap false hl hn hb _ hr).mono ?_
    rintro e w1 ⟨rfl, rfl⟩
    clear hr hb
    go_wp2
    go_ret2
    exact ⟨rfl, Below.refl _ _⟩
  · have HC : Hid (CodeR rl) := hb.1 rfl
    have HL : Hid (rl.length = n) := hl
    have h60 : n ≤ 60 := by have := HC.out.1; omega
    have HR : Hid (RdR w a rl) := hr
    clear hl hr hb
    go_enter Tryd.func48, Tryd.ntmps48
    go_wp2_with fail
    refine (codeokS a rl n cap true HL.out hn ⟨fun _ => HC.out, fun _ => rfl⟩ _ HR.out).mono ?_
    rintro e w1 ⟨rfl, rfl⟩
    have how := own_empty5 w1
    have HB0 : Hid (Below w1.heap.size w1 (w1.alloc (.cells #[] 5))) := (Below.refl _ _).alloc (Nat.le_refl _) _
    by_cases hp : 0 < n
    · obtain ⟨g, off, rfl, hc⟩ := HR.out (by have := HL.out; omega)
      have HCC : Hid (∀ j (h : j < rl.length), w1.cell? ⟨g, off + j * 2, none⟩ = some (.int .i64 rl[j].1) ∧ w1.cell? ⟨g, off + j * 2 + 1, none⟩ = some (.int .i64 rl[j].2)) := hc
      have hgl : g < w1.heap.size := World.block_lt_of_cell? w1 ⟨g, off + 0 * 2, none⟩ (hc 0 (by have := HL.out; omega)).1
      clear HR hc
      go_wp2
      go_loopg [4, 5] n (fun gk v i wr => ∃ j : Nat, j + gk = n ∧ i = .int .i64 j ∧ Hid (wr.ownsRow w1.heap.size 5 1 v (codeB (rl.take j)).length (bytesV (codeB (rl.take j)))) ∧ Hid (Below w1.heap.size w1 wr))
      case atStart => exact ⟨0, by omega, rfl, how, HB0⟩
      case round =>
        clear how HB0
        obtain ⟨j, hj, rfl, HO, HW⟩ := hrel
        have hsz := HW.out.size
        by_cases hlt : j < n
        · have hjl : j < rl.length := by have := HL.out; omega
          have c0 := HCC.out j hjl
          have c1 := (HW.out.cell (p := ⟨g, off + j * 2, none⟩) hgl).trans c0.1
          have c2 := (HW.out.cell (p := ⟨g, off + j * 2 + 1, none⟩) hgl).trans c0.2
          have HT := codeB_take hjl
          have hf := (HC.out.2 j hjl).1
          have hs := (HC.out.2 j hjl).2
          clear c0
          generalize rl[j].1 = f at *
          generalize rl[j].2 = s at *
          have HT' : Hid (codeB (rl.take (j + 1)) = codeB (rl.take j) ++ [bOf f, bOf s]) := HT
          have HNW : Hid (_ = _) := two_news hf hs
          have hlen : (codeB (rl.take j)).length ≤ 120 := by rw [codeB_len, List.length_take]; omega
          have hown := HO.out
          clear HT HO
          generalize codeB (rl.take j) = xs at *
          obtain ⟨f0, f1⟩ := hf
          obtain ⟨q0, q1⟩ := hs
          have x0 : (0 : Int) ≤ (j : Int) := by omega
          have x1 : (j : Int) < (n : Int) := by omega
          have u1 : IntKind.u8.wrap f = f := IntWalk.u8_in _ (by omega)
          have u2 : IntKind.u8.wrap s = s := IntWalk.u8_in _ (by omega)
          go_wp2
          go_region_law (refine step_append_lies _ rfl _ _ _ rfl w1.heap.size 5 i0 _ 1 1 Tryd.underlying22 hi hz0 hz1 hz2 rfl (by omega) _ _ _ rfl ((hown.alloc _).drew) ⟨wr.heap.size, 0, none⟩ 2 2 [.int .u8 f, .int .u8 s] rfl rfl (World.news_of_block (cs := #[.int .u8 f, .int .u8 s]) (t := 5) (fr := (0, 0)) (heap_alloc_new wr _)) (by simp [Value.oneCell']) (by omega) (by unfold maxLen; omega) (by omega) (by simp; omega) (wr.heap.size + 1) (by simp) ?_; intro gg cp w3 hown3 hgrow hat hlt1)
          all_goals
            have R := rel_app (bs := [bOf f, bOf s]) ((HW.out.alloc hsz (.cells #[.int .u8 f, .int .u8 s] 5)).drew) (by simp; omega) (Nat.le_refl _) hown hown3 hgrow (by simp) HNW.out
            have HO' : Hid (_ ∧ _) := R
            clear R hown3 hgrow hown HW c1 c2 hat hlt1
            go_wp2
            go_roundg (gk - 1)
            case measure => omega
            case rel => exact ⟨j + 1, by omega, by go_num, by rw [HT'.out]; exact HO'.out.1, HO'.out.2⟩
        · obtain rfl : j = n := by omega
          have hown := HO.out
          rw [codeB_all HL.out] at hown
          obtain ⟨xs, hxs⟩ : ∃ xs, codeB rl = xs := ⟨_, rfl⟩
          have HX : Hid (codeB rl = xs) := hxs
          rw [hxs] at hown
          obtain ⟨ao, cp, hv, hcv⟩ := own_text hown
          clear HO hown hxs
          subst hv
          go_wp2
          go_ret2
          exact ⟨by unfold ctV; rw [HX.out]; rfl, HW.out⟩
    · obtain rfl : n = 0 := by omega
      have HX : Hid (codeB rl = []) := by have := HL.out; rw [List.length_eq_zero_iff.1 this]; rfl
      obtain ⟨ao, cp, hv, hcv⟩ := own_text (xs := []) how
      cases hv
      clear how HR
      go_wp2
      go_rounds 1
      go_wp2
      go_ret2
      exact ⟨by unfold ctV; rw [HX.out]; rfl, HB0.out⟩
end Go.Proofs.YtadbekhekggpkaaDoor.I
