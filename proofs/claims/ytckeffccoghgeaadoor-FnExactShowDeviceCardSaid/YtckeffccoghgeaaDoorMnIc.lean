/-
  Menus of the program: MenuOk.
-/
import Derived.Test.YtckeffccoghgeaaDoorMnIb
namespace Go.Proofs.YtckeffccoghgeaaDoor
open Go.RowKit Go.PlainAid
set_option linter.unusedVariables false
set_option linter.unusedSimpArgs false

theorem box2_cells {w : World} {k : Nat} {t : TypeId} {x0 x1 : Value} (h : w.heap[k]? = some (.cells #[x0, x1] t)) :
    (w.cell? ⟨k, 0, none⟩ = some x0 ∧ w.cell? ⟨k, 1, none⟩ = some x1) ∧ w.frozen? ⟨k, 0, none⟩ = false ∧ w.frozen? ⟨k, 1, none⟩ = false := by
  refine ⟨⟨?_, ?_⟩, ?_, ?_⟩ <;> simp [World.cell?, World.frozen?, h]
theorem okM_hi {m : Mn} (h1 : m.a ≠ 1) (h : ¬ (2 ≤ m.a ∧ m.a ≤ 4)) : okM m = false := okM_at (fun h2 => h ⟨by omega, h2.2⟩)
theorem okM_fs {m : Mn} (h : m.s.all figB = false) : okM m = false := by
  cases e : okM m
  · rfl
  · exact absurd (List.all_eq_true.2 ((okM_iff m).1 e).2.1) (by rw [h]; decide)
theorem okM_top (b : Bool) (n d : Int) (s : List UInt8) : okM ⟨1, b, n, d, s⟩ = (!b && (n == 0) && (d == 0) && decide (s = [])) := by
  by_cases h : s = [] ∧ b = false ∧ n = 0 ∧ d = 0
  · obtain ⟨rfl, rfl, rfl, rfl⟩ := h
    rfl
  · rw [okM_t rfl h]
    cases b
    · by_cases hn : n = 0
      · by_cases hd : d = 0
        · by_cases hs : s = []
          · exact absurd ⟨hs, rfl, hn, hd⟩ h
          · simp [hs]
        · simp [hd]
      · simp [hn]
    · simp
set_option maxRecDepth 100000 in
set_option maxHeartbeats 4000000 in
theorem menuokI (m : Mn) (B : Bool) (hB : okM m = B) (w : World) : Calls Tryd.prog 40 #[mnV m] w fun e w' => e = .returned (.bool B) ∧ Below w.heap.size w w' := by
  obtain ⟨a, b, n, d, s⟩ := m
  obtain ⟨S, hS⟩ : ∃ S : ByteArray, (⟨s.toArray⟩ : ByteArray) = S := ⟨_, rfl⟩
  unfold mnV
  dsimp only
  rw [hS]
  have hsz := txt_size hS
  have HO : Hid (okM ⟨a, b, n, d, s⟩ = B) := hB
  have HS : Hid ((⟨s.toArray⟩ : ByteArray) = S) := hS
  have HNIL : Hid ((S.toList = []) ↔ s = []) := txt_nil hS
  have HB0 : Hid (Below w.heap.size w (w.alloc (.cells #[.int .i64 a, .bool b, .int .i64 n, .int .i64 d, .string S] 40))) := alM _ _
  have HP0 : Hid ((w.alloc (.cells #[.int .i64 a, .bool b, .int .i64 n, .int .i64 d, .string S] 40)).heap[w.heap.size]? = some (.cells #[.int .i64 a, .bool b, .int .i64 n, .int .i64 d, .string S] 40)) := heap_new w _
  have p0 := box5_cells HP0.out
  clear hS hB
  go_enter Tryd.func40, Tryd.ntmps40
  by_cases a1 : a = 1
  · subst a1
    go_upto_region 2 with fail
    clear p0
    refine wp_region_held_drew (S := fun w' => w'.cell? ⟨w.heap.size, 0, none⟩ = some (.int .i64 1) ∧ w'.cell? ⟨w.heap.size, 1, none⟩ = some (.bool b) ∧ w'.cell? ⟨w.heap.size, 2, none⟩ = some (.int .i64 n) ∧ w'.cell? ⟨w.heap.size, 3, none⟩ = some (.int .i64 d) ∧ w'.cell? ⟨w.heap.size, 4, none⟩ = some (.string S) ∧ Below w.heap.size w w') (by kernel_rfl) (ky5 (w' := (w.alloc (.cells #[.int .i64 1, .bool b, .int .i64 n, .int .i64 d, .string S] 40)).drew) HP0.out HB0.out.drew) (fun hHeld => ?_)
    refine wpAnyH_take (i := 0) (v := ?_) rfl (by kernel_rfl) (by kernel_rfl) (by kernel_rfl) (fun _ _ _ h => h) (Or.inl ⟨by rfl, ?_⟩) (by assumption) ?_
    rotate_left
    · intro w_ hSw; (try dsimp only at hSw); go_simp <;> with_reducible rfl
    try simp only [Act.put, List.setIfInBounds_toArray, List.set_cons_zero, List.set_cons_succ, List.getElem_toArray, List.getElem_cons_zero, List.getElem_cons_succ]
    refine wpAnyH_ready (rs := [1]) (by kernel_rfl) (by simp) ?_
    refine AllReadyH.cons rfl (fun J hJ => ?_) AllReadyH.nil
    go_simp
    go_at_call 57
    refine (menunewI _).mono ?_
    rintro e w6 ⟨rfl, hbc⟩
    have HB6 : Hid (Below w.heap.size w w6) := bel_on (Nat.le_refl _) HB0.out.drew hbc
    have HP6 : Hid (w6.heap[w.heap.size]? = some (.cells #[.int .i64 1, .bool b, .int .i64 n, .int .i64 d, .string S] 40)) := row_on (w := (w.alloc (.cells #[.int .i64 1, .bool b, .int .i64 n, .int .i64 d, .string S] 40)).drew) HP0.out hbc
    unfold mnV newM
    dsimp only
    clear hbc HB0 HP0
    go_wp2_with fail
    refine hJ.out _ _ (ky5 HP6.out HB6.out) (fun hHeld1 => ?_)
    clear hJ J hHeld
    try simp only [Act.put, List.setIfInBounds_toArray, List.set_cons_zero, List.set_cons_succ, List.getElem_toArray, List.getElem_cons_zero, List.getElem_cons_succ]
    refine wpAnyH_take (i := 2) (v := .bool B) rfl (by kernel_rfl) (by kernel_rfl) (by kernel_rfl) (fun _ _ _ h => h) (Or.inl ⟨by rfl, ?_⟩) (by assumption) ?_
    · intro w_ hSw
      (try dsimp only at hSw)
      go_simp
      have e := HO.out
      rw [okM_top] at e
      have hnil := HNIL.out
      clear hSw HO HNIL
      subst e
      cases b
      · by_cases hn : n = 0
        · by_cases hd : d = 0
          · by_cases hs : S.toList = []
            · simp [hn, hd, hs, hnil.1 hs]
            · have h2 : ¬ s = [] := fun h => hs (hnil.2 h)
              simp [hn, hd, hs, h2]
          · simp [hn, hd]
        · simp [hn]
      · simp
    try simp only [Act.put, List.setIfInBounds_toArray, List.set_cons_zero, List.set_cons_succ, List.getElem_toArray, List.getElem_cons_zero, List.getElem_cons_succ]
    refine wpAnyH_take (i := 3) (v := ?_) rfl (by kernel_rfl) (by kernel_rfl) (by kernel_rfl) (fun _ _ _ h => h) (Or.inl ⟨by rfl, ?_⟩) (by assumption) ?_
    rotate_left
    · intro w_ hSw; (try dsimp only at hSw); go_simp <;> with_reducible rfl
    try simp only [Act.put, List.setIfInBounds_toArray, List.set_cons_zero, List.set_cons_succ, List.getElem_toArray, List.getElem_cons_zero, List.getElem_cons_succ]
    refine wpAnyH_done (by kernel_rfl) ?_ _
    clear hHeld1
    go_wp2
    go_ret
    exact ⟨rfl, HB6.out⟩
  have q1 : (a == 1) = false := by simpa using a1
  have hb : Below w.heap.size w ((w.alloc (.cells #[.int .i64 a, .bool b, .int .i64 n, .int .i64 d, .string S] 40)).alloc (.cells #[.int .i64 0, .int .i64 9999] 86)) := bel_on (Nat.le_refl _) HB0.out (alM _ _)
  have hp : ((w.alloc (.cells #[.int .i64 a, .bool b, .int .i64 n, .int .i64 d, .string S] 40)).alloc (.cells #[.int .i64 0, .int .i64 9999] 86)).heap[w.heap.size]? = some (.cells #[.int .i64 a, .bool b, .int .i64 n, .int .i64 d, .string S] 40) := row_on HP0.out (alM _ _)
  have hy := heap_new (w.alloc (.cells #[.int .i64 a, .bool b, .int .i64 n, .int .i64 d, .string S] 40)) (.cells #[.int .i64 0, .int .i64 9999] 86)
  rw [show (w.alloc (.cells #[.int .i64 a, .bool b, .int .i64 n, .int .i64 d, .string S] 40)).heap.size = w.heap.size + 1 by simp] at hy
  have HB1 : Hid (Below w.heap.size w ((w.alloc (.cells #[.int .i64 a, .bool b, .int .i64 n, .int .i64 d, .string S] 40)).alloc (.cells #[.int .i64 0, .int .i64 9999] 86))) := hb
  have HP1 : Hid (((w.alloc (.cells #[.int .i64 a, .bool b, .int .i64 n, .int .i64 d, .string S] 40)).alloc (.cells #[.int .i64 0, .int .i64 9999] 86)).heap[w.heap.size]? = some (.cells #[.int .i64 a, .bool b, .int .i64 n, .int .i64 d, .string S] 40)) := hp
  have HY1 : Hid (((w.alloc (.cells #[.int .i64 a, .bool b, .int .i64 n, .int .i64 d, .string S] 40)).alloc (.cells #[.int .i64 0, .int .i64 9999] 86)).heap[w.heap.size + 1]? = some (.cells #[.int .i64 0, .int .i64 9999] 86)) := hy
  have p1 := box5_cells HP1.out
  have y1 := box2_cells HY1.out
  clear hb hp hy HB0 HP0
  by_cases h2 : 2 ≤ a ∧ a ≤ 4
  case neg =>
    obtain rfl : false = B := by rw [← HO.out]; exact (okM_hi a1 h2).symm
    go_wp2_with fail
    refine (holdsI 2 4 a false (decide_eq_false h2) _).mono ?_
    rintro e w2 ⟨rfl, hb1⟩
    have HB2 : Hid (Below w.heap.size w w2) := bel_on (Nat.le_refl _) HB1.out hb1
    have HP2 : Hid (w2.heap[w.heap.size]? = some (.cells #[.int .i64 a, .bool b, .int .i64 n, .int .i64 d, .string S] 40)) := row_on HP1.out hb1
    have HY2 : Hid (w2.heap[w.heap.size + 1]? = some (.cells #[.int .i64 0, .int .i64 9999] 86)) := row_on HY1.out hb1
    have p2 := box5_cells HP2.out
    have y2 := box2_cells HY2.out
    clear hb1 HB1 HP1 HY1 p1 y1
    go_wp2
    go_ret
    exact ⟨rfl, HB2.out⟩
  go_wp2_with fail
  refine (holdsI 2 4 a true (decide_eq_true h2) _).mono ?_
  rintro e w2 ⟨rfl, hb1⟩
  have HB2 : Hid (Below w.heap.size w w2) := bel_on (Nat.le_refl _) HB1.out hb1
  have HP2 : Hid (w2.heap[w.heap.size]? = some (.cells #[.int .i64 a, .bool b, .int .i64 n, .int .i64 d, .string S] 40)) := row_on HP1.out hb1
  have HY2 : Hid (w2.heap[w.heap.size + 1]? = some (.cells #[.int .i64 0, .int .i64 9999] 86)) := row_on HY1.out hb1
  have p2 := box5_cells HP2.out
  have y2 := box2_cells HY2.out
  clear hb1 HB1 HP1 HY1 p1 y1
  by_cases h3 : 0 ≤ n ∧ n ≤ 9999
  case neg =>
    obtain rfl : false = B := by rw [← HO.out]; exact (okM_n h3).symm
    go_wp2_with fail
    refine (holdsI 0 9999 n false (decide_eq_false h3) _).mono ?_
    rintro e w3 ⟨rfl, hb1⟩
    have HB3 : Hid (Below w.heap.size w w3) := bel_on (Nat.le_refl _) HB2.out hb1
    have HP3 : Hid (w3.heap[w.heap.size]? = some (.cells #[.int .i64 a, .bool b, .int .i64 n, .int .i64 d, .string S] 40)) := row_on HP2.out hb1
    have HY3 : Hid (w3.heap[w.heap.size + 1]? = some (.cells #[.int .i64 0, .int .i64 9999] 86)) := row_on HY2.out hb1
    have p3 := box5_cells HP3.out
    have y3 := box2_cells HY3.out
    clear hb1 HB2 HP2 HY2 p2 y2
    go_wp2
    go_ret
    exact ⟨rfl, HB3.out⟩
  go_wp2_with fail
  refine (holdsI 0 9999 n true (decide_eq_true h3) _).mono ?_
  rintro e w3 ⟨rfl, hb1⟩
  have HB3 : Hid (Below w.heap.size w w3) := bel_on (Nat.le_refl _) HB2.out hb1
  have HP3 : Hid (w3.heap[w.heap.size]? = some (.cells #[.int .i64 a, .bool b, .int .i64 n, .int .i64 d, .string S] 40)) := row_on HP2.out hb1
  have HY3 : Hid (w3.heap[w.heap.size + 1]? = some (.cells #[.int .i64 0, .int .i64 9999] 86)) := row_on HY2.out hb1
  have p3 := box5_cells HP3.out
  have y3 := box2_cells HY3.out
  clear hb1 HB2 HP2 HY2 p2 y2
  by_cases h4 : 0 ≤ d ∧ d ≤ 9999
  case neg =>
    obtain rfl : false = B := by rw [← HO.out]; exact (okM_d h4).symm
    go_wp2_with fail
    refine (holdsI 0 9999 d false (decide_eq_false h4) _).mono ?_
    rintro e w4 ⟨rfl, hb1⟩
    have HB4 : Hid (Below w.heap.size w w4) := bel_on (Nat.le_refl _) HB3.out hb1
    have HP4 : Hid (w4.heap[w.heap.size]? = some (.cells #[.int .i64 a, .bool b, .int .i64 n, .int .i64 d, .string S] 40)) := row_on HP3.out hb1
    have HY4 : Hid (w4.heap[w.heap.size + 1]? = some (.cells #[.int .i64 0, .int .i64 9999] 86)) := row_on HY3.out hb1
    have p4 := box5_cells HP4.out
    have y4 := box2_cells HY4.out
    clear hb1 HB3 HP3 HY3 p3 y3
    go_wp2
    go_ret
    exact ⟨rfl, HB4.out⟩
  go_wp2_with fail
  refine (holdsI 0 9999 d true (decide_eq_true h4) _).mono ?_
  rintro e w4 ⟨rfl, hb1⟩
  have HB4 : Hid (Below w.heap.size w w4) := bel_on (Nat.le_refl _) HB3.out hb1
  have HP4 : Hid (w4.heap[w.heap.size]? = some (.cells #[.int .i64 a, .bool b, .int .i64 n, .int .i64 d, .string S] 40)) := row_on HP3.out hb1
  have HY4 : Hid (w4.heap[w.heap.size + 1]? = some (.cells #[.int .i64 0, .int .i64 9999] 86)) := row_on HY3.out hb1
  have p4 := box5_cells HP4.out
  have y4 := box2_cells HY4.out
  clear hb1 HB3 HP3 HY3 p3 y3
  by_cases h5 : S.size ≤ 4
  case neg =>
    obtain rfl : false = B := by rw [← HO.out]; exact (okM_l (m := ⟨a, b, n, d, s⟩) (by show ¬ s.length ≤ 4; omega)).symm
    have h5' : ¬ (S.size : Int) ≤ 4 := by omega
    go_wp2
    go_ret
    exact ⟨rfl, HB4.out⟩
  have h5' : (S.size : Int) ≤ 4 := by omega
  obtain ⟨B2, hB2⟩ : ∃ B2, s.all figB = B2 := ⟨_, rfl⟩
  have HA : Hid (s.all figB = B2) := hB2
  clear hB2
  have HB2 : Hid (B2 = B) := by
    show _ = _
    rw [← HO.out]
    cases B2
    · exact (okM_fs (m := ⟨a, b, n, d, s⟩) HA.out).symm
    · exact ((okM_iff _).2 ⟨⟨⟨by show 1 ≤ a; omega, h2.2⟩, h3, h4, by show s.length ≤ 4; omega⟩, List.all_eq_true.1 HA.out, fun e => absurd e a1⟩).symm
  go_wp2_with fail
  refine (areI s S HS.out B2 HA.out _).mono ?_
  rintro e w5 ⟨rfl, hb1⟩
  have HB5 : Hid (Below w.heap.size w w5) := bel_on (Nat.le_refl _) HB4.out hb1
  have HP5 : Hid (w5.heap[w.heap.size]? = some (.cells #[.int .i64 a, .bool b, .int .i64 n, .int .i64 d, .string S] 40)) := row_on HP4.out hb1
  have HY5 : Hid (w5.heap[w.heap.size + 1]? = some (.cells #[.int .i64 0, .int .i64 9999] 86)) := row_on HY4.out hb1
  have p5 := box5_cells HP5.out
  have y5 := box2_cells HY5.out
  clear hb1 HB4 HP4 HY4 p4 y4
  cases B2
  all_goals (go_wp2; go_ret; exact ⟨by rw [← HB2.out]; rfl, HB5.out⟩)
end Go.Proofs.YtckeffccoghgeaaDoor
