/-
  The contracts of Listing, the program's and the specification's.
-/
import Derived.Test.YtbcphgmcjickgaaDoorLMath
import Derived.Test.YtbcphgmcjickgaaDoorBuild5
import Derived.Test.YtbcphgmcjickgaaDoorTabs
import Derived.Deep.DeepCutAuto
namespace Go.Proofs.YtbcphgmcjickgaaDoor
open Go.RowKit Plain Go.PlainAid
open Go.Lib (decDigits itoa)
set_option linter.unusedVariables false

theorem decI (s : Int) (h : isB s) (w : World) (ht : Tab w) : Calls Tryd.prog 30 #[.int .i64 s] w fun e w' => ∃ d : ByteArray, e = .returned (.string d) ∧ d.data.toList = decDigits s.toNat ∧ d.size ≤ 3 ∧ Below w.heap.size w w' := by
  have h0 := h.1
  have h1 := h.2
  refine (dec6 s (by omega) (by omega) w ht).mono ?_
  rintro e w' ⟨rfl, hb⟩
  refine ⟨_, rfl, itoa_toNat h, ?_, hb⟩
  rw [itoa_toNat h]
  show (decDigits s.toNat).toArray.size ≤ 3
  rw [List.size_toArray]
  exact dec_len3 (by omega)
theorem decS (s : Int) (h : isB s) (w : World) : Calls Tryd.prog 33 #[.int .i64 s] w fun e w' => ∃ d : ByteArray, e = .returned (.string d) ∧ d.data.toList = decDigits s.toNat ∧ d.size ≤ 3 ∧ Below w.heap.size w w' := by
  have h0 := h.1
  have h1 := h.2
  refine (dec5 s (by omega) (by omega) w).mono ?_
  rintro e w' ⟨rfl, hb⟩
  refine ⟨_, rfl, itoa_toNat h, ?_, hb⟩
  rw [itoa_toNat h]
  show (decDigits s.toNat).toArray.size ≤ 3
  rw [List.size_toArray]
  exact dec_len3 (by omega)

set_option maxRecDepth 100000 in
set_option maxHeartbeats 4000000 in
theorem listI (a : Option Addr) (rl : List (Int × Int)) (n cap : Nat) (b : Bool) (hl : rl.length = n) (hn : n ≤ 9223372036854775807) (hb : b = true ↔ LsOk rl) (w : World) (hr : RdR w a rl) (ht : TabA w) :
    Calls Tryd.prog 10 #[.slice a n cap] w fun e w' => e = .returned (lsV rl b) ∧ Below w.heap.size w w' := by
  have HB : Hid (b = true ↔ LsOk rl) := hb
  have HL : Hid (rl.length = n) := hl
  have HR : Hid (RdR w a rl) := hr
  have HT : Hid (TabA w) := ht
  clear hb hl hr ht
  by_cases hC : CodeR rl
  · have HC : Hid (CodeR rl) := hC
    have h60 : n ≤ 60 := by have := HC.out.1; have := HL.out; omega
    clear hC
    go_enter Tryd.func10, Tryd.ntmps10
    go_wp2_with fail
    refine (codeokI a rl n cap true HL.out hn ⟨fun _ => HC.out, fun _ => rfl⟩ _ HR.out).mono ?_
    rintro e w1 ⟨rfl, hb1⟩
    have HW1 : Hid (Below w.heap.size w w1) := hb1
    have hr1 : RdR w1 a rl := HR.out.keep hb1 (Nat.le_refl _)
    have HT1 : Hid (TabA w1) := tabA_below HT.out hb1
    clear hb1 HR HT
    have HBl : Hid (Bld (w1.alloc (.cells #[.pointer none, .slice none 0 0] 49)) w1.heap.size w1.heap.size (listB (rl.take 0))) := bld_new w1 w1.heap.size (Nat.le_refl _)
    have HB0 : Hid (Below w1.heap.size w1 (w1.alloc (.cells #[.pointer none, .slice none 0 0] 49))) := (Below.refl _ _).alloc (Nat.le_refl _) _
    by_cases hp : 0 < n
    · obtain ⟨g, off, rfl, hc⟩ := hr1 (by have := HL.out; omega)
      have HCC : Hid (∀ j (h : j < rl.length), w1.cell? ⟨g, off + j * 2, none⟩ = some (.int .i64 rl[j].1) ∧ w1.cell? ⟨g, off + j * 2 + 1, none⟩ = some (.int .i64 rl[j].2)) := hc
      have hgl : g < w1.heap.size := World.block_lt_of_cell? w1 ⟨g, off + 0 * 2, none⟩ (hc 0 (by have := HL.out; omega)).1
      clear hr1 hc
      go_wp2
      go_loopg [13] n (fun gk i wr => ∃ j : Nat, j + gk = n ∧ i = .int .i64 j ∧ Hid (Named rl j) ∧ Hid (Bld wr w1.heap.size w1.heap.size (listB (rl.take j))) ∧ Hid (Below w1.heap.size w1 wr))
      case atStart => exact ⟨0, by omega, rfl, named_zero rl, HBl, HB0⟩
      case round =>
        clear HBl HB0
        obtain ⟨j, hj, rfl, HN, HBL, HW⟩ := hrel
        by_cases hlt : j < n
        · have hjl : j < rl.length := by have := HL.out; omega
          have c0 := HCC.out j hjl
          have c1 := (HW.out.cell (p := ⟨g, off + j * 2, none⟩) hgl).trans c0.1
          have c2 := (HW.out.cell (p := ⟨g, off + j * 2 + 1, none⟩) hgl).trans c0.2
          have HT' : Hid (listB (rl.take (j + 1)) = listB (rl.take j) ++ lineB rl[j].1 rl[j].2) := listB_take hjl
          have HSB : Hid (isB rl[j].2) := (HC.out.2 j hjl).2
          have HLN : Hid ((listB (rl.take j)).length ≤ 10 * j) := listB_len HC.out j (by omega) HN.out
          have HNS : Hid (isN rl[j].1 → Named rl (j + 1)) := fun h => named_succ HN.out hjl h
          have HNF : Hid (¬ isN rl[j].1 → b = false) := fun h => not_ls HB.out j hjl h
          clear c0 HN
          generalize rl[j].1 = f at *
          generalize rl[j].2 = s at *
          have HBX : Hid ((wr.alloc (.cells #[.int .i64 f, .int .i64 s] 51)).heap[wr.heap.size]? = some (.cells #[.int .i64 f, .int .i64 s] 51)) := heap_new wr _
          have HW2 : Hid (Below w1.heap.size w1 (wr.alloc (.cells #[.int .i64 f, .int .i64 s] 51))) := HW.out.alloc HW.out.size _
          have HBL2 : Hid (Bld (wr.alloc (.cells #[.int .i64 f, .int .i64 s] 51)) w1.heap.size w1.heap.size (listB (rl.take j))) := HBL.out.on ((Below.refl _ _).alloc (Nat.le_refl _) _)
          have HTN : Hid (TabA (wr.alloc (.cells #[.int .i64 f, .int .i64 s] 51))) := tabA_below HT1.out HW2.out
          clear HW HBL
          by_cases hf : isN f
          · have hne := name_ne0 hf
            have hnl := name_len hf
            have HN' : Hid (Named rl (j + 1)) := HNS.out hf
            clear hf HNS HNF
            go_wp2_with fail
            refine (nameI f _ HTN.out.2).mono ?_
            rintro e w2 ⟨rfl, hw2⟩
            obtain ⟨nm, hnm⟩ : ∃ nm, nameOf f = nm := ⟨_, rfl⟩
            have HNM : Hid (nameOf f = nm) := hnm
            rw [hnm] at hne hnl ⊢
            rw [← hw2] at HBX HW2 HBL2 HTN
            have k2 := row2_cells HBX.out
            clear hnm hw2 c1 c2 HBX
            go_wp2_with fail
            refine (decI s HSB.out _ HTN.out.1).mono ?_
            rintro e w3 ⟨d, rfl, hd, hdl, hb3⟩
            have HD : Hid ((nm ++ (⟨#[32]⟩ : ByteArray) ++ d ++ (⟨#[10]⟩ : ByteArray)).data.toList = lineB f s) := line_data f s nm d HNM.out hd
            have HBL3 : Hid (Bld w3 w1.heap.size w1.heap.size (listB (rl.take j))) := HBL2.out.on hb3
            have HW3 : Hid (Below w1.heap.size w1 w3) := bel_on (Nat.le_refl _) HW2.out hb3
            have s3 := HW3.out.size
            have hsz : (nm ++ (⟨#[32]⟩ : ByteArray) ++ d ++ (⟨#[10]⟩ : ByteArray)).size ≤ 10 := by simp only [ByteArray.size_append]; show nm.size + 1 + d.size + 1 ≤ 10; omega
            clear hd hb3 HBL2 HW2 HTN k2
            go_wp2_with fail
            refine (writeB w1.heap.size w1.heap.size (listB (rl.take j)) _ _ HBL3.out (by have := HLN.out; omega) s3).mono ?_
            rintro e w4 ⟨rfl, hbl4, hb4⟩
            have HBL4 : Hid (Bld w4 w1.heap.size w1.heap.size (listB (rl.take (j + 1)))) := by rw [HT'.out, ← HD.out]; exact hbl4
            have HW4 : Hid (Below w1.heap.size w1 w4) := HW3.out.trans hb4
            clear hbl4 hb4 HBL3 HW3 HD
            go_wp2
            go_roundg (gk - 1)
            case measure => omega
            case rel => exact ⟨j + 1, by omega, by go_num, HN', HBL4, HW4⟩
          · have HE : Hid (b = false) := HNF.out hf
            have HNM : Hid (nameOf f = ⟨#[]⟩) := nameOf_out hf
            have HWE : Hid (Below w.heap.size w (wr.alloc (.cells #[.int .i64 f, .int .i64 s] 51))) := HW1.out.trans (HW2.out.mono HW1.out.size)
            clear hf HNF HNS
            go_wp2_with fail
            refine (nameI f _ HTN.out.2).mono ?_
            rintro e w2 ⟨rfl, hw2⟩
            rw [← hw2] at HWE
            rw [HNM.out]
            clear hw2 HTN HW2 HBL2 HBX c1 c2
            go_wp2
            go_ret2
            exact ⟨by rw [HE.out]; rfl, HWE.out⟩
        · obtain rfl : j = n := by omega
          have HE : Hid (b = true) := HB.out.2 ⟨HC.out, by have := HN.out; rw [HL.out]; exact this⟩
          have hbl := HBL.out
          rw [listB_all HL.out] at hbl
          have HBL' : Hid (Bld wr w1.heap.size w1.heap.size (listB rl)) := hbl
          have hsz := HW.out.size
          clear hbl HBL
          go_wp2_with fail
          refine (strB w1.heap.size w1.heap.size (listB rl) _ HBL'.out hsz).mono ?_
          rintro e w2 ⟨rfl, hb2⟩
          have HW2 : Hid (Below w.heap.size w w2) := HW1.out.trans ((HW.out.trans hb2).mono HW1.out.size)
          clear hb2 HBL'
          go_wp2
          go_ret2
          exact ⟨by rw [HE.out]; rfl, HW2.out⟩
    · obtain rfl : n = 0 := by omega
      have hnil : rl = [] := List.length_eq_zero_iff.1 HL.out
      have HE : Hid (b = true) := HB.out.2 ⟨HC.out, by rw [HL.out]; exact named_zero rl⟩
      have HX : Hid (listB rl = []) := by rw [hnil]; rfl
      have hbl := HBl.out
      rw [List.take_zero] at hbl
      have HBL' : Hid (Bld (w1.alloc (.cells #[.pointer none, .slice none 0 0] 49)) w1.heap.size w1.heap.size []) := hbl
      clear hr1 HBl hbl hnil
      go_wp2
      refine wp_loop_rounds 1 ?_
      rw [rounds_succ]
      go_wp2_with fail
      refine (strB w1.heap.size w1.heap.size [] _ HBL'.out (by simp)).mono ?_
      rintro e w2 ⟨rfl, hb2⟩
      have HW2 : Hid (Below w.heap.size w w2) := HW1.out.trans ((HB0.out.trans hb2).mono HW1.out.size)
      clear hb2 HBL' HB0
      go_wp2
      go_ret2
      exact ⟨by rw [HE.out]; unfold lsV; rw [HX.out]; rfl, HW2.out⟩
  · have HE : Hid (b = false) := not_lc HB.out hC
    have HC : Hid (¬ CodeR rl) := hC
    clear hC
    go_enter Tryd.func10, Tryd.ntmps10
    go_wp2_with fail
    refine (codeokI a rl n cap false HL.out hn ⟨fun h => (by cases h), fun h => absurd h HC.out⟩ _ HR.out).mono ?_
    rintro e w1 ⟨rfl, hb1⟩
    have HW1 : Hid (Below w.heap.size w w1) := hb1
    clear hb1 HR HT
    go_wp2
    go_ret2
    exact ⟨by rw [HE.out]; rfl, HW1.out⟩

theorem sp_cells {W W' w1 : World} {g o : Nat} {x y : Value} (hb : Below W.heap.size W W') (h : W.cell? ⟨g, o, none⟩ = some x ∧ W.cell? ⟨g, o + 1, none⟩ = some y ∧ Below w1.heap.size w1 W) : W'.cell? ⟨g, o, none⟩ = some x ∧ W'.cell? ⟨g, o + 1, none⟩ = some y ∧ Below w1.heap.size w1 W' := by
  obtain ⟨h1, h2, h5⟩ := h
  have l1 := World.block_lt_of_cell? W ⟨g, o, none⟩ h1
  exact ⟨(hb.cell (p := ⟨g, o, none⟩) l1).trans h1, (hb.cell (p := ⟨g, o + 1, none⟩) l1).trans h2, h5.trans (hb.mono h5.size)⟩
theorem line_data' (T : ByteArray) (f s : Int) (nm d : ByteArray) (hn : nameOf f = nm) (hd : d.data.toList = decDigits s.toNat) : (T ++ nm ++ (⟨#[32]⟩ : ByteArray) ++ d ++ (⟨#[10]⟩ : ByteArray)).data.toList = T.data.toList ++ lineB f s := by
  subst hn
  unfold lineB
  rw [← hd]
  simp

set_option maxRecDepth 100000 in
set_option maxHeartbeats 4000000 in
theorem listS (a : Option Addr) (rl : List (Int × Int)) (n cap : Nat) (b : Bool) (hl : rl.length = n) (hn : n ≤ 9223372036854775807) (hb : b = true ↔ LsOk rl) (w : World) (hr : RdR w a rl) :
    Calls Tryd.prog 11 #[.slice a n cap] w fun e w' => e = .returned (lsV rl b) ∧ Below w.heap.size w w' := by
  have HB : Hid (b = true ↔ LsOk rl) := hb
  have HL : Hid (rl.length = n) := hl
  have HR : Hid (RdR w a rl) := hr
  clear hb hl hr
  by_cases hC : CodeR rl
  · have HC : Hid (CodeR rl) := hC
    have h60 : n ≤ 60 := by have := HC.out.1; have := HL.out; omega
    clear hC
    go_enter Tryd.func11, Tryd.ntmps11
    go_wp2_with fail
    refine (codeokS a rl n cap true HL.out hn ⟨fun _ => HC.out, fun _ => rfl⟩ _ HR.out).mono ?_
    rintro e w1 ⟨rfl, rfl⟩
    by_cases hp : 0 < n
    · obtain ⟨g, off, rfl, hc⟩ := HR.out (by have := HL.out; omega)
      have HCC : Hid (∀ j (h : j < rl.length), w1.cell? ⟨g, off + j * 2, none⟩ = some (.int .i64 rl[j].1) ∧ w1.cell? ⟨g, off + j * 2 + 1, none⟩ = some (.int .i64 rl[j].2)) := hc
      have hgl : g < w1.heap.size := World.block_lt_of_cell? w1 ⟨g, off + 0 * 2, none⟩ (hc 0 (by have := HL.out; omega)).1
      clear HR hc
      go_wp2
      go_loopg [4, 5] n (fun gk tv i wr => ∃ (j : Nat) (T : ByteArray), j + gk = n ∧ i = .int .i64 j ∧ tv = .string T ∧ T.size ≤ 600 ∧ Hid (Named rl j) ∧ Hid (T.data.toList = listB (rl.take j)) ∧ Hid (Below w1.heap.size w1 wr))
      case atStart => exact ⟨0, ⟨#[]⟩, by omega, rfl, rfl, Nat.zero_le _, named_zero rl, (show Hid _ from rfl), Below.refl _ _⟩
      case round =>
        obtain ⟨j, T, hj, rfl, rfl, hTs, HN, HTX, HW⟩ := hrel
        by_cases hlt : j < n
        · have hjl : j < rl.length := by have := HL.out; omega
          have c0 := HCC.out j hjl
          have c1 := (HW.out.cell (p := ⟨g, off + j * 2, none⟩) hgl).trans c0.1
          have c2 := (HW.out.cell (p := ⟨g, off + j * 2 + 1, none⟩) hgl).trans c0.2
          have HT' : Hid (listB (rl.take (j + 1)) = listB (rl.take j) ++ lineB rl[j].1 rl[j].2) := listB_take hjl
          have HSB : Hid (isB rl[j].2) := (HC.out.2 j hjl).2
          have HNS : Hid (isN rl[j].1 → Named rl (j + 1) ∧ (listB (rl.take (j + 1))).length ≤ 10 * (j + 1)) := fun h => by
            have h1 := named_succ HN.out hjl h
            exact ⟨h1, listB_len HC.out (j + 1) hjl h1⟩
          have HNF : Hid (¬ isN rl[j].1 → b = false) := fun h => not_ls HB.out j hjl h
          clear c0 HN
          generalize rl[j].1 = f at *
          generalize rl[j].2 = s at *
          by_cases hf : isN f
          · have hne := name_ne0 hf
            have hnl := name_len hf
            have HN' : Hid (Named rl (j + 1)) := (HNS.out hf).1
            have HLN : Hid ((listB (rl.take (j + 1))).length ≤ 10 * (j + 1)) := (HNS.out hf).2
            clear hf HNS HNF
            go_wp2_with fail
            refine (nameS f _).mono ?_
            rintro e w2 ⟨rfl, hb2⟩
            have HW2 : Hid (Below w1.heap.size w1 w2) := bel_on (Nat.le_refl _) HW.out hb2
            have HC2 : Hid (w2.cell? ⟨g, off + j * 2, none⟩ = some (.int .i64 f) ∧ w2.cell? ⟨g, off + j * 2 + 1, none⟩ = some (.int .i64 s) ∧ Below w1.heap.size w1 w2) := sp_cells hb2 ⟨c1, c2, HW.out⟩
            have x0 : (0 : Int) ≤ (j : Int) := by omega
            have x1 : (j : Int) < (n : Int) := by omega
            obtain ⟨nm, hnm⟩ : ∃ nm, nameOf f = nm := ⟨_, rfl⟩
            have HNM : Hid (nameOf f = nm) := hnm
            rw [hnm] at hne hnl ⊢
            have b1 : ¬9223372036854775807 < T.size + nm.size := by omega
            have b2 : ¬9223372036854775807 < T.size + nm.size + 1 := by omega
            clear hb2 HW c1 c2 hnm
            go_wp2_with fail
            go_region_held3 (fun w' => w'.cell? ⟨g, off + j * 2, none⟩ = some (.int .i64 f) ∧ w'.cell? ⟨g, off + j * 2 + 1, none⟩ = some (.int .i64 s) ∧ Below w1.heap.size w1 w') (first | assumption | (exact ⟨HC2.out.1, HC2.out.2.1, HC2.out.2.2.drew⟩) | (refine sp_cells (by assumption) ?_; assumption)) (first | (go_at_call 20; refine (nameS f _).mono ?_; rintro e w3 ⟨rfl, hb3⟩; rw [HNM.out]) | (go_at_call 33; refine (decS s HSB.out _).mono ?_; rintro e w4 ⟨d, rfl, hd, hdl, hb4⟩; have b3 : ¬9223372036854775807 < T.size + nm.size + 1 + d.size := (by omega); have b4 : ¬9223372036854775807 < T.size + nm.size + 1 + d.size + 1 := (by omega)))
            rename_i HH
            have HW4 : Hid (Below w1.heap.size w1 w4) := HH.2.2
            have HTY : Hid ((T ++ nm ++ (⟨#[32]⟩ : ByteArray) ++ d ++ (⟨#[10]⟩ : ByteArray)).data.toList = listB (rl.take (j + 1))) := by rw [HT'.out, ← HTX.out]; exact line_data' T f s nm d HNM.out hd
            have HSZ : Hid ((T ++ nm ++ (⟨#[32]⟩ : ByteArray) ++ d ++ (⟨#[10]⟩ : ByteArray)).size ≤ 600) := by
              have h1 := congrArg List.length HTY.out
              rw [Array.length_toList] at h1
              have h2 := HLN.out
              show (T ++ nm ++ (⟨#[32]⟩ : ByteArray) ++ d ++ (⟨#[10]⟩ : ByteArray)).data.size ≤ 600
              omega
            clear HH hd hdl hb3 hb4 HC2 HW2 HT' HTX HNM
            go_wp2
            go_roundg (gk - 1)
            case measure => omega
            case rel => exact ⟨j + 1, _, by omega, by go_num, rfl, HSZ.out, HN', HTY, HW4⟩
          · have HE : Hid (b = false) := HNF.out hf
            have HNM : Hid (nameOf f = ⟨#[]⟩) := nameOf_out hf
            clear hf HNF HNS
            go_wp2_with fail
            refine (nameS f _).mono ?_
            rintro e w2 ⟨rfl, hb2⟩
            have HW2 : Hid (Below w1.heap.size w1 w2) := bel_on (Nat.le_refl _) HW.out hb2
            rw [HNM.out]
            clear hb2 HW c1 c2
            go_wp2
            go_ret2
            exact ⟨by rw [HE.out]; rfl, HW2.out⟩
        · obtain rfl : j = n := by omega
          have HE : Hid (b = true) := HB.out.2 ⟨HC.out, by have := HN.out; rw [HL.out]; exact this⟩
          have HX : Hid (T = ⟨(listB rl).toArray⟩) := by
            apply ByteArray.ext
            have h := HTX.out
            rw [listB_all HL.out] at h
            exact Array.toList_inj.1 (by rw [h])
          go_wp2
          go_ret2
          exact ⟨by rw [HE.out]; unfold lsV; rw [← HX.out]; rfl, HW.out⟩
    · obtain rfl : n = 0 := by omega
      have hnil : rl = [] := List.length_eq_zero_iff.1 HL.out
      have HE : Hid (b = true) := HB.out.2 ⟨HC.out, by rw [HL.out]; exact named_zero rl⟩
      have HX : Hid (listB rl = []) := by rw [hnil]; rfl
      clear HR hnil
      go_wp2
      go_rounds 1
      go_ret2
      exact ⟨by rw [HE.out]; unfold lsV; rw [HX.out]; rfl, Below.refl _ _⟩
  · have HE : Hid (b = false) := not_lc HB.out hC
    have HC : Hid (¬ CodeR rl) := hC
    clear hC
    go_enter Tryd.func11, Tryd.ntmps11
    go_wp2_with fail
    refine (codeokS a rl n cap false HL.out hn ⟨fun h => (by cases h), fun h => absurd h HC.out⟩ _ HR.out).mono ?_
    rintro e w1 ⟨rfl, rfl⟩
    clear HR
    go_wp2
    go_ret2
    exact ⟨by rw [HE.out]; rfl, Below.refl _ _⟩
end Go.Proofs.YtbcphgmcjickgaaDoor
