/-
  The instruction that parts tell: the contract of the program's instrOf.
-/
import Derived.Test.YtbcphgmcjickgaaDoorAsm1
namespace Go.Proofs.YtbcphgmcjickgaaDoor
open Go.RowKit Plain Go.PlainAid Go.Maps
open Go.Lib (decDigits itoa indexByte)
set_option linter.unusedVariables false

theorem has_no {s : ByteArray} (h : ¬ ∃ r, r < 18 ∧ nmA r = s) : Maps.has (mapN 18) (.string s.data.toList) = false := by
  cases e : Maps.has (mapN 18) (.string s.data.toList) with
  | false => rfl
  | true =>
    obtain ⟨r, hr, hd⟩ := (mapN_has 18 _).1 e
    exact absurd ⟨r, hr, ba_list hd⟩ h
theorem has_yes {r : Nat} (hr : r < 18) : Maps.has (mapN 18) (.string (nmA r).data.toList) = true := (mapN_has 18 _).2 ⟨r, hr, rfl⟩
theorem at_num {r : Nat} (hr : r < 18) {c : Int} (h : (mapN 18).atKey (.string (nmA r).data.toList) (.lit (.int .i64 0)) = .lit (.int .i64 c)) : c = r := by
  rw [mapN_at 18 (Nat.le_refl _) r hr] at h
  cases h
  rfl
theorem own_strs {w : World} {B : Nat} {v : Value} {L : List ByteArray} (h : w.ownsRow B 9 1 v L.length (strV L)) : ∃ a cap, v = .slice a L.length cap ∧ (0 < L.length → ∃ g, a = some ⟨g, 0, none⟩ ∧ g < w.heap.size ∧ ∀ j x, L[j]? = some x → w.cell? ⟨g, j, none⟩ = some (.string x)) := by
  obtain ⟨a, cap, hv, hc⟩ := own_form h
  refine ⟨a, cap, hv, fun hp => ?_⟩
  obtain ⟨g, ha, hb, hcell⟩ := hc hp
  exact ⟨g, ha, own_lt h g hb, fun j x hx => (hcell j x hx).1⟩
theorem tells_head {s : ByteArray} {t : List ByteArray} {r v : Nat} (h : Tells (s :: t) r v) : nmA r = s ∧ t.length ≤ 1 := by
  rcases h.2.2 with ⟨e, _⟩ | ⟨d, e, _⟩
  · obtain ⟨e1, e2⟩ := List.cons.inj e
    exact ⟨e1.symm, by rw [e2]; simp⟩
  · obtain ⟨e1, e2⟩ := List.cons.inj e
    exact ⟨e1.symm, by rw [e2]; simp⟩

set_option maxRecDepth 100000 in
set_option maxHeartbeats 1000000 in
theorem ins_len (M n cap : Nat) (a : Option Addr) (hn : n = 0 ∨ 2 < n) (hn2 : n ≤ 1000) (w : World) :
    Calls Tryd.prog 37 #[.map (some M), .slice a n cap] w fun e w' => ∃ f s : Int, e = .returned (.tuple #[.agg #[.int .i64 f, .int .i64 s], .bool false]) ∧ Below w.heap.size w w' := by
  have HZ0 : Hid ((w.alloc (.cells #[.int .i64 0, .int .i64 0] 51)).heap[w.heap.size]? = some (.cells #[.int .i64 0, .int .i64 0] 51)) := heap_new w _
  have HB0 : Hid (Below w.heap.size w (w.alloc (.cells #[.int .i64 0, .int .i64 0] 51))) := (Below.refl _ _).alloc (Nat.le_refl _) _
  have kz := row2_cells HZ0.out
  rcases hn with rfl | hn
  · go_enter Tryd.func37, Tryd.ntmps37
    go_wp2
    refine bodyPost_ret (v := .tuple #[.agg #[.int .i64 0, .int .i64 0], .bool false]) (by simp [results, Tryd.results37, go_sem, kz]) rfl ⟨0, 0, rfl, ?_⟩
    first | exact HB0.out | exact ((HB0.out.setCell (p := ⟨w.heap.size, 0, none⟩) (Nat.le_refl _) _).setCell (p := ⟨w.heap.size, 1, none⟩) (Nat.le_refl _) _)
  · go_enter Tryd.func37, Tryd.ntmps37
    go_wp2
    refine bodyPost_ret (v := .tuple #[.agg #[.int .i64 0, .int .i64 0], .bool false]) (by simp [results, Tryd.results37, go_sem, kz]) rfl ⟨0, 0, rfl, ?_⟩
    first | exact HB0.out | exact ((HB0.out.setCell (p := ⟨w.heap.size, 0, none⟩) (Nat.le_refl _) _).setCell (p := ⟨w.heap.size, 1, none⟩) (Nat.le_refl _) _)

set_option maxRecDepth 100000 in
set_option maxHeartbeats 2000000 in
theorem ins_one (M g cap : Nat) (s0 : ByteArray) (hk : s0.size ≤ maxLen) (q : Option (Int × Int)) (hq : InsR [s0] q) (w : World) (c0 : w.cell? ⟨g, 0, none⟩ = some (.string s0)) (hg : g < w.heap.size) (hM : OpsK w M 18) :
    Calls Tryd.prog 37 #[.map (some M), .slice (some ⟨g, 0, none⟩) 1 cap] w fun e w' => ∃ f s : Int, e = .returned (.tuple #[.agg #[.int .i64 f, .int .i64 s], .bool q.isSome]) ∧ (∀ p, q = some p → p = (f, s)) ∧ Below w.heap.size w w' := by
  have HM0 : Hid (OpsK (w.alloc (.cells #[.int .i64 0, .int .i64 0] 51)) M 18) := hM.on ((Below.refl _ _).alloc (Nat.le_refl _) _)
  have HZ0 : Hid ((w.alloc (.cells #[.int .i64 0, .int .i64 0] 51)).heap[w.heap.size]? = some (.cells #[.int .i64 0, .int .i64 0] 51)) := heap_new w _
  have HB0 : Hid (Below w.heap.size w (w.alloc (.cells #[.int .i64 0, .int .i64 0] 51))) := (Below.refl _ _).alloc (Nat.le_refl _) _
  have kz := row2_cells HZ0.out
  have d0 : (w.alloc (.cells #[.int .i64 0, .int .i64 0] 51)).cell? ⟨g, 0, none⟩ = some (.string s0) := (HB0.out.cell (p := ⟨g, 0, none⟩) hg).trans c0
  by_cases hx : ∃ r, r < 18 ∧ nmA r = s0
  · obtain ⟨r, hr, rfl⟩ := hx
    obtain rfl : q = some ((r : Int), ((0 : Nat) : Int)) := insR_one hq (insR_yes ⟨hr, by omega, .inl ⟨rfl, rfl⟩⟩)
    have hhas := has_yes hr
    clear hq c0 hM
    go_enter Tryd.func37, Tryd.ntmps37
    have hown : (w.alloc (.cells #[.int .i64 0, .int .i64 0] 51)).ownsMap Tryd.prog 9 (plainElem Tryd.prog 3) M 18 (mapN 18) := HM0.out
    go_wp2_with (first | (at_lookup; refine wpList_lookup_own_ok_int _ rfl _ _ 57 rfl 9 3 .i64 lawK Tryd.underlying57 Tryd.underlying3 (zeroI _) M 18 _ rfl hown _ _ rfl (key_of hk) ?_; intro c hat hwc) | fail)
    have hc := at_num hr hat
    subst hc
    clear hat hwc hown hhas
    refine (isByteI 0 true (by decide) _).mono ?_
    rintro e w1 ⟨rfl, hb1⟩
    have kz1 := row2_cells (row_on HZ0.out hb1)
    have HB1 : Hid (Below w.heap.size w w1) := bel_on (Nat.le_refl _) HB0.out hb1
    clear hb1 kz HZ0 HB0
    go_wp2
    refine bodyPost_ret (v := .tuple #[.agg #[.int .i64 (r : Int), .int .i64 0], .bool true]) (by simp [results, Tryd.results37, go_sem, kz1]) rfl ⟨(r : Int), 0, rfl, (fun p hp => by cases hp; rfl), ?_⟩
    exact ((HB1.out.setCell (p := ⟨w.heap.size, 0, none⟩) (Nat.le_refl _) _).setCell (p := ⟨w.heap.size, 1, none⟩) (Nat.le_refl _) _)
  · have hhas := has_no hx
    obtain rfl : q = none := insR_one hq (insR_no fun r v h => hx ⟨r, h.1, (tells_head h).1⟩)
    clear hq c0 hM hx
    go_enter Tryd.func37, Tryd.ntmps37
    have hown : (w.alloc (.cells #[.int .i64 0, .int .i64 0] 51)).ownsMap Tryd.prog 9 (plainElem Tryd.prog 3) M 18 (mapN 18) := HM0.out
    go_wp2_with (first | (at_lookup; refine wpList_lookup_own_ok_int _ rfl _ _ 57 rfl 9 3 .i64 lawK Tryd.underlying57 Tryd.underlying3 (zeroI _) M 18 _ rfl hown _ _ rfl (key_of hk) ?_; intro c hat hwc) | fail)
    clear hat hwc hown hhas
    refine bodyPost_ret (v := .tuple #[.agg #[.int .i64 0, .int .i64 0], .bool false]) (by simp [results, Tryd.results37, go_sem, kz]) rfl ⟨0, 0, rfl, (fun p hp => by cases hp), ?_⟩
    first | exact HB0.out | exact ((HB0.out.setCell (p := ⟨w.heap.size, 0, none⟩) (Nat.le_refl _) _).setCell (p := ⟨w.heap.size, 1, none⟩) (Nat.le_refl _) _)

set_option maxRecDepth 100000 in
set_option maxHeartbeats 4000000 in
theorem ins_two (M g cap : Nat) (s0 s1 : ByteArray) (hk : s0.size ≤ maxLen) (hk1 : s1.size ≤ 1048576) (q : Option (Int × Int)) (hq : InsR [s0, s1] q) (w : World) (c0 : w.cell? ⟨g, 0, none⟩ = some (.string s0)) (c1 : w.cell? ⟨g, 1, none⟩ = some (.string s1)) (hg : g < w.heap.size) (hM : OpsK w M 18) (ht : Tab w) :
    Calls Tryd.prog 37 #[.map (some M), .slice (some ⟨g, 0, none⟩) 2 cap] w fun e w' => ∃ f s : Int, e = .returned (.tuple #[.agg #[.int .i64 f, .int .i64 s], .bool q.isSome]) ∧ (∀ p, q = some p → p = (f, s)) ∧ Below w.heap.size w w' := by
  have HM0 : Hid (OpsK (w.alloc (.cells #[.int .i64 0, .int .i64 0] 51)) M 18) := hM.on ((Below.refl _ _).alloc (Nat.le_refl _) _)
  have HZ0 : Hid ((w.alloc (.cells #[.int .i64 0, .int .i64 0] 51)).heap[w.heap.size]? = some (.cells #[.int .i64 0, .int .i64 0] 51)) := heap_new w _
  have HB0 : Hid (Below w.heap.size w (w.alloc (.cells #[.int .i64 0, .int .i64 0] 51))) := (Below.refl _ _).alloc (Nat.le_refl _) _
  have HT0 : Hid (Tab (w.alloc (.cells #[.int .i64 0, .int .i64 0] 51))) := tab_below ht HB0.out
  have kz := row2_cells HZ0.out
  have d0 : (w.alloc (.cells #[.int .i64 0, .int .i64 0] 51)).cell? ⟨g, 0, none⟩ = some (.string s0) := (HB0.out.cell (p := ⟨g, 0, none⟩) hg).trans c0
  have d1 : (w.alloc (.cells #[.int .i64 0, .int .i64 0] 51)).cell? ⟨g, 1, none⟩ = some (.string s1) := (HB0.out.cell (p := ⟨g, 1, none⟩) hg).trans c1
  have HQ : Hid (InsR [s0, s1] q) := hq
  clear c0 c1 hM ht hq
  by_cases hx : ∃ r, r < 18 ∧ nmA r = s0
  · obtain ⟨r, hr, rfl⟩ := hx
    have hhas := has_yes hr
    go_enter Tryd.func37, Tryd.ntmps37
    have hown : (w.alloc (.cells #[.int .i64 0, .int .i64 0] 51)).ownsMap Tryd.prog 9 (plainElem Tryd.prog 3) M 18 (mapN 18) := HM0.out
    go_wp2_with (first | (at_lookup; refine wpList_lookup_own_ok_int _ rfl _ _ 57 rfl 9 3 .i64 lawK Tryd.underlying57 Tryd.underlying3 (zeroI _) M 18 _ rfl hown _ _ rfl (key_of hk) ?_; intro c hat hwc) | fail)
    have hc := at_num hr hat
    subst hc
    clear hat hwc hown hhas
    refine (rd8 s1 hk1 _ HT0.out).mono ?_
    rintro e w1 ⟨m, rfl, hrd, hb1⟩
    have HZ1 : Hid (w1.heap[w.heap.size]? = some (.cells #[.int .i64 0, .int .i64 0] 51)) := row_on HZ0.out hb1
    have HB1 : Hid (Below w.heap.size w w1) := bel_on (Nat.le_refl _) HB0.out hb1
    have HRd : Hid (Rd s1.data.toList m) := hrd
    clear hb1 hrd kz HZ0 HB0 d0 d1 HT0 HM0
    cases m with
    | none =>
      obtain rfl : q = none := insR_one HQ.out (insR_no fun r' v h => by
        rcases h.2.2 with ⟨e, _⟩ | ⟨d, e, hd⟩
        · simp at e
        · have e2 : s1 = d := by simpa using (List.cons.inj e).2
          subst e2
          exact HRd.out.2 rfl v (by have := h.2.1; omega) hd)
      have kz := row2_cells HZ1.out
      unfold encR
      go_wp2
      refine bodyPost_ret (v := .tuple #[.agg #[.int .i64 0, .int .i64 0], .bool false]) (by simp [results, Tryd.results37, go_sem, kz]) rfl ⟨0, 0, rfl, (fun p hp => by cases hp), ?_⟩
      first | exact HB1.out | exact ((HB1.out.setCell (p := ⟨w.heap.size, 0, none⟩) (Nat.le_refl _) _).setCell (p := ⟨w.heap.size, 1, none⟩) (Nat.le_refl _) _)
    | some m =>
      have hm := HRd.out.1 m rfl
      unfold encR
      by_cases h255 : m ≤ 255
      · obtain rfl : q = some ((r : Int), (m : Int)) := insR_one HQ.out (insR_yes ⟨hr, h255, .inr ⟨s1, rfl, hm.2⟩⟩)
        clear hm
        go_wp2_with fail
        refine (isByteI (m : Int) true (decide_eq_true ⟨by omega, by omega⟩) _).mono ?_
        rintro e w2 ⟨rfl, hb2⟩
        have kz := row2_cells (row_on HZ1.out hb2)
        have HB2 : Hid (Below w.heap.size w w2) := bel_on (Nat.le_refl _) HB1.out hb2
        clear hb2 HB1 HZ1
        go_wp2
        refine bodyPost_ret (v := .tuple #[.agg #[.int .i64 (r : Int), .int .i64 (m : Int)], .bool true]) (by simp [results, Tryd.results37, go_sem, kz]) rfl ⟨(r : Int), (m : Int), rfl, (fun p hp => by cases hp; rfl), ?_⟩
        exact ((HB2.out.setCell (p := ⟨w.heap.size, 0, none⟩) (Nat.le_refl _) _).setCell (p := ⟨w.heap.size, 1, none⟩) (Nat.le_refl _) _)
      · obtain rfl : q = none := insR_one HQ.out (insR_no fun r' v h => by
          rcases h.2.2 with ⟨e, _⟩ | ⟨d, e, hd⟩
          · simp at e
          · have e2 : s1 = d := by simpa using (List.cons.inj e).2
            subst e2
            have := dec_inj (hd.trans hm.2.symm)
            have := h.2.1
            omega)
        clear hm
        go_wp2_with fail
        refine (isByteI (m : Int) false (decide_eq_false (fun h => by omega)) _).mono ?_
        rintro e w2 ⟨rfl, hb2⟩
        have kz := row2_cells (row_on HZ1.out hb2)
        have HB2 : Hid (Below w.heap.size w w2) := bel_on (Nat.le_refl _) HB1.out hb2
        clear hb2 HB1 HZ1
        go_wp2
        refine bodyPost_ret (v := .tuple #[.agg #[.int .i64 0, .int .i64 0], .bool false]) (by simp [results, Tryd.results37, go_sem, kz]) rfl ⟨0, 0, rfl, (fun p hp => by cases hp), ?_⟩
        first | exact HB2.out | exact ((HB2.out.setCell (p := ⟨w.heap.size, 0, none⟩) (Nat.le_refl _) _).setCell (p := ⟨w.heap.size, 1, none⟩) (Nat.le_refl _) _)
  · have hhas := has_no hx
    obtain rfl : q = none := insR_one HQ.out (insR_no fun r v h => hx ⟨r, h.1, (tells_head h).1⟩)
    clear hx
    go_enter Tryd.func37, Tryd.ntmps37
    have hown : (w.alloc (.cells #[.int .i64 0, .int .i64 0] 51)).ownsMap Tryd.prog 9 (plainElem Tryd.prog 3) M 18 (mapN 18) := HM0.out
    go_wp2_with (first | (at_lookup; refine wpList_lookup_own_ok_int _ rfl _ _ 57 rfl 9 3 .i64 lawK Tryd.underlying57 Tryd.underlying3 (zeroI _) M 18 _ rfl hown _ _ rfl (key_of hk) ?_; intro c hat hwc) | fail)
    clear hat hwc hown hhas
    refine bodyPost_ret (v := .tuple #[.agg #[.int .i64 0, .int .i64 0], .bool false]) (by simp [results, Tryd.results37, go_sem, kz]) rfl ⟨0, 0, rfl, (fun p hp => by cases hp), ?_⟩
    first | exact HB0.out | exact ((HB0.out.setCell (p := ⟨w.heap.size, 0, none⟩) (Nat.le_refl _) _).setCell (p := ⟨w.heap.size, 1, none⟩) (Nat.le_refl _) _)

theorem instrI (M Bv : Nat) (L : List ByteArray) (v : Value) (hL : ∀ x ∈ L, x.size ≤ 1048576) (hn : L.length ≤ 10) (q : Option (Int × Int)) (hq : InsR L q) (w : World) (hown : w.ownsRow Bv 9 1 v L.length (strV L)) (hM : OpsK w M 18) (ht : Tab w) :
    Calls Tryd.prog 37 #[.map (some M), v] w fun e w' => ∃ f s : Int, e = .returned (.tuple #[.agg #[.int .i64 f, .int .i64 s], .bool q.isSome]) ∧ (∀ p, q = some p → p = (f, s)) ∧ Below w.heap.size w w' := by
  obtain ⟨a, cap, rfl, hc⟩ := own_strs hown
  have big : ∀ x ∈ L, x.size ≤ maxLen := fun x hx => by have := hL x hx; unfold maxLen; omega
  match L, hL, hn, hq, hc, big with
  | [], hL, hn, hq, hc, big =>
    obtain rfl : q = none := insR_one hq insR_nil
    refine (ins_len M 0 cap a (.inl rfl) (by omega) w).mono ?_
    rintro e w' ⟨f, s, rfl, hb⟩
    exact ⟨f, s, rfl, (fun p hp => by cases hp), hb⟩
  | [s0], hL, hn, hq, hc, big =>
    obtain ⟨g, rfl, hg, hcell⟩ := hc (by simp)
    exact ins_one M g cap s0 (big s0 (by simp)) q hq w (hcell 0 s0 rfl) hg hM
  | [s0, s1], hL, hn, hq, hc, big =>
    obtain ⟨g, rfl, hg, hcell⟩ := hc (by simp)
    exact ins_two M g cap s0 s1 (big s0 (by simp)) (hL s1 (by simp)) q hq w (hcell 0 s0 rfl) (hcell 1 s1 rfl) hg hM ht
  | s0 :: s1 :: s2 :: rest, hL, hn, hq, hc, big =>
    obtain rfl : q = none := insR_one hq (insR_no fun r v h => by have := (tells_head h).2; simp at this)
    refine (ins_len M (s0 :: s1 :: s2 :: rest).length cap a (.inr (by simp)) (by omega) w).mono ?_
    rintro e w' ⟨f, s, rfl, hb⟩
    exact ⟨f, s, rfl, (fun p hp => by cases hp), hb⟩
end Go.Proofs.YtbcphgmcjickgaaDoor
