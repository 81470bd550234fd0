/-
  The contracts of ReadVar, the program's and the specification's.
-/
import Derived.Test.YticlbaopnbddbaaDoorReadV
namespace Go.Proofs.YticlbaopnbddbaaDoor.V
open Go.RowKit Plain Go.PlainAid
set_option linter.unusedVariables false

theorem rvF_fin {s : ByteArray} {a f k : Nat} {N S : Int} (h : k < s.size) (h' : bt s k < 128) : rvF s a (f + 1) k N S = fin s a (k + 1) (N + bt s k % 128 * S) := by
  rw [rvF, if_pos h, if_pos h']
theorem rvF_on {s : ByteArray} {a f k : Nat} {N S : Int} (h : k < s.size) (h' : ¬ bt s k < 128) : rvF s a (f + 1) k N S = rvF s a f (k + 1) (N + bt s k % 128 * S) (S * 128) := by
  rw [rvF, if_pos h, if_neg h']
theorem rvF_end {s : ByteArray} {a f k : Nat} {N S : Int} (h : ¬ k < s.size) : rvF s a f k N S = none := by
  cases f with
  | zero => rfl
  | succ f => rw [rvF, if_neg h]

theorem exact23' (N B : Int) (s : ByteArray) (a b : Nat) (hB : B = b) (hs : s.size ≤ 1048576) (hab : a ≤ b) (hb : b ≤ s.size) (h0 : 0 ≤ N) (hN : N ≤ 9223372036854775807) (w : World) :
    Calls Tryd.prog 48 #[.int .i64 N, .string s, .int .i64 a, .int .i64 B] w fun e w' => e = .returned (enc3 (fin s a b N)) ∧ Below w.heap.size w w' := by
  subst hB; exact exact23 N s a b hs hab hb h0 hN w

set_option maxRecDepth 100000 in
set_option maxHeartbeats 1000000 in
theorem rv12_in (s : ByteArray) (a : Nat) (hs : s.size ≤ 1048576) (ha : a ≤ s.size) (w : World) :
    Calls Tryd.prog 41 #[.string s, .int .i64 a] w fun e w' => e = .returned (enc3 (rvF s a 5 a 0 1)) ∧ Below w.heap.size w w' := by
  have hbt := get_bt s
  go_enter Tryd.func41, Tryd.ntmps41
  go_wp2
  go_loopw [7, 8, 9] (fun n v i wr => ∃ (N : Int) (j f : Nat), f + j = 5 ∧ a + j ≤ s.size ∧ n = .int .i64 N ∧ v = .int .i64 (sc j) ∧ i = .int .i64 (a + j : Nat) ∧ 0 ≤ N ∧ N < sc j ∧ Hid (rvF s a 5 a 0 1 = rvF s a f (a + j) N (sc j)) ∧ wr = w) (fun _ _ i _ => s.size - (intOf i).toNat)
  case atStart => exact ⟨0, 0, 5, rfl, ha, rfl, rfl, rfl, by decide, by decide, (show Hid _ from rfl), rfl⟩
  case round =>
    obtain ⟨N, j, f, hf, hk, rfl, rfl, rfl, h0, hN, H, rfl⟩ := hrel
    obtain ⟨k, hkk⟩ : ∃ k, k = a + j := ⟨_, rfl⟩
    rw [← hkk] at hk H ⊢
    have ha' : a ≤ k := by omega
    have hsc := sc_pos j
    by_cases h1 : k < s.size
    · have hb0 := bt_nonneg s k
      have hb1 := bt_le s k
      have hP := prod_bd (bt s k) (sc j) hsc
      by_cases h2 : j < 5
      · have hle := sc_le j h2
        obtain ⟨f, rfl⟩ : ∃ f', f = f' + 1 := ⟨f - 1, by omega⟩
        by_cases h3 : bt s k < 128
        · rw [rvF_fin h1 h3] at H
          have H2 : Hid (k = a + j) := hkk
          clear hkk
          go_wp2_with fail
          refine (exact23' (N + bt s k % 128 * sc j) (k + 1) s a (k + 1) (by omega) hs (by omega) (by omega) (by omega) (by omega) _).mono ?_
          rintro e w1 ⟨rfl, hb⟩
          rw [← H.out]
          rcases hR : rvF s a 5 a 0 1 with _ | ⟨M, c⟩
          · have HR : Hid (rvF s a 5 a 0 1 = none) := hR
            clear hR
            simp only [enc3]
            go_wp2
            go_ret3
            exact ⟨by rw [HR.out]; rfl, hb⟩
          · have HR : Hid (rvF s a 5 a 0 1 = some (M, c)) := hR
            clear hR
            simp only [enc3]
            go_wp2
            go_ret3
            exact ⟨by rw [HR.out]; rfl, hb⟩
        · rw [rvF_on h1 h3] at H
          have H2 : Hid (k = a + j) := hkk
          clear hkk
          go_wp2_with fail
          go_roundw
          case rel => exact ⟨N + bt s k % 128 * sc j, j + 1, f, by omega, by have := H2.out; omega, by go_num, by simp [sc], by have := H2.out; go_num, by omega, by simp only [sc]; omega, (by have e := H2.out; rw [show a + (j + 1) = k + 1 by omega]; exact H), trivial⟩
          case measure => simp [intOf]; omega
      · have h5 : j = 5 := by omega
        subst h5
        have hfz : f = 0 := by omega
        subst hfz
        rw [sc_five] at *
        have H2 : Hid (k = a + 5) := hkk
        clear hkk
        go_wp2
        go_ret3
        exact ⟨by rw [H.out]; rfl, Below.refl _ _⟩
    · rw [rvF_end h1] at H
      have H2 : Hid (k = a + j) := hkk
      clear hkk
      go_wp2
      go_ret3
      exact ⟨by rw [H.out]; rfl, Below.refl _ _⟩

theorem cut_run (s : ByteArray) (a k : Nat) (h : a ≤ k + 1) (h1 : k < s.size) (w : World) :
    (Instr.slice 9 (.string s) (some (.int .i64 (a : Int))) (some (.int .i64 ((k : Int) + 1))) none).run Tryd.prog w = .ok (.string (s.extract a (k + 1))) w := by
  rw [run_slice_string_if w 9 s .i64 .i64 (a : Int) ((k : Int) + 1) Tryd.underlying9, if_pos (by omega), if_pos (by omega)]
  rfl

theorem var22' (N : Int) (h0 : 0 ≤ N) (hN : N ≤ 1000000000) (w : World) :
    Calls Tryd.prog 35 #[.int .i64 N] w fun e w' => e = .returned (.string ⟨(vt N.toNat).toArray⟩) ∧ Below w.heap.size w w' := by
  obtain ⟨n, rfl⟩ := Int.eq_ofNat_of_zero_le h0
  exact var22 n (by omega) w

set_option maxRecDepth 100000 in
set_option maxHeartbeats 1000000 in
theorem rv11_in (s : ByteArray) (a : Nat) (hs : s.size ≤ 1048576) (ha : a ≤ s.size) (w : World) :
    Calls Tryd.prog 45 #[.string s, .int .i64 a] w fun e w' => e = .returned (enc3 (rvF s a 5 a 0 1)) ∧ Below w.heap.size w w' := by
  have hbt := get_bt s
  go_enter Tryd.func45, Tryd.ntmps45
  go_wp2_with fail
  refine (in21 _ _ _ _).mono ?_
  rintro e w' ⟨rfl, rfl⟩
  rw [decide_eq_true (by omega)]
  go_wp2
  go_loopw [7, 8, 9] (fun n v i wr => ∃ (N : Int) (j f : Nat), f + j = 5 ∧ a + j ≤ s.size ∧ n = .int .i64 N ∧ v = .int .i64 (sc j) ∧ i = .int .i64 (a + j : Nat) ∧ 0 ≤ N ∧ N < sc j ∧ Hid (rvF s a 5 a 0 1 = rvF s a f (a + j) N (sc j)) ∧ wr = w') (fun _ _ i _ => s.size - (intOf i).toNat)
  case atStart => exact ⟨0, 0, 5, rfl, ha, rfl, rfl, rfl, by decide, by decide, (show Hid _ from rfl), rfl⟩
  case round =>
    obtain ⟨N, j, f, hf, hk, rfl, rfl, rfl, h0, hN, H, rfl⟩ := hrel
    obtain ⟨k, hkk⟩ : ∃ k, k = a + j := ⟨_, rfl⟩
    rw [← hkk] at hk H ⊢
    have ha' : a ≤ k := by omega
    have hsc := sc_pos j
    have H2 : Hid (k = a + j) := hkk
    by_cases h1 : k < s.size
    · have hb0 := bt_nonneg s k
      have hb1 := bt_le s k
      have hP := prod_bd (bt s k) (sc j) hsc
      by_cases h2 : j < 5
      · have hle := sc_le j h2
        have hk5 : k < a + 5 := by omega
        clear hkk
        obtain ⟨f, rfl⟩ : ∃ f', f = f' + 1 := ⟨f - 1, by omega⟩
        by_cases h3 : bt s k < 128
        · rw [rvF_fin h1 h3] at H
          go_wp2
          have hM0 : 0 ≤ N + bt s k % 128 * sc j := by omega
          have hsl := cut_run s a k (by omega) h1
          have hwr : IntKind.i64.wrap ((k : Int) + 1) = (k : Int) + 1 := IntWalk.i64_in _ (by omega)
          generalize hM : N + bt s k % 128 * sc j = M at *
          clear hM hP hN h0 hsc hle hb0 hb1 h3 hf h2 hk5
          by_cases h4 : M ≤ 1000000000
          · have hd : decide (1000000000 < M) = false := by simp; omega
            cases e : vt M.toNat == (s.extract a (k + 1)).toList
            · rw [fin_no e] at H
              go_region_held3 (fun _ => True) (trivial) (first | (go_at_call 35; refine (var22' _ hM0 h4 _).mono ?_; rintro e w1 ⟨rfl, hb⟩))
              go_wp2
              go_ret3
              exact ⟨by rw [H.out]; rfl, (Below.refl _ _).drew.trans hb⟩
            · rw [fin_yes h4 e] at H
              go_region_held3 (fun _ => True) (trivial) (first | (go_at_call 35; refine (var22' _ hM0 h4 _).mono ?_; rintro e w1 ⟨rfl, hb⟩))
              go_wp2
              go_ret3
              exact ⟨by rw [H.out]; rfl, (Below.refl _ _).drew.trans hb⟩
          · rw [fin_big h4] at H
            have hd : decide (1000000000 < M) = true := by simp; omega
            go_quiet (fail)
            go_wp2
            go_ret3
            exact ⟨by rw [H.out]; rfl, below_drewN (Below.refl _ _) _⟩
        · rw [rvF_on h1 h3] at H
          go_wp2_with fail
          go_roundw
          case rel => exact ⟨N + bt s k % 128 * sc j, j + 1, f, by omega, by have := H2.out; omega, by go_num, by simp [sc], by have := H2.out; go_num, by omega, by simp only [sc]; omega, (by have e := H2.out; rw [show a + (j + 1) = k + 1 by omega]; exact H), trivial⟩
          case measure => simp [intOf]; omega
      · have hk5 : a + 5 ≤ k := by omega
        have hfz : f = 0 := by omega
        subst hfz
        clear hkk
        go_wp2
        go_ret3
        exact ⟨by rw [H.out]; rfl, Below.refl _ _⟩
    · rw [rvF_end h1] at H
      clear hkk
      go_wp2
      go_ret3
      exact ⟨by rw [H.out]; rfl, Below.refl _ _⟩

theorem rv11 (s : ByteArray) (a : Int) (hs : s.size ≤ 1048576) (w : World) :
    Calls Tryd.prog 45 #[.string s, .int .i64 a] w fun e w' => e = .returned (enc3 (rv s a)) ∧ Below w.heap.size w w' := by
  by_cases h : 0 ≤ a ∧ a ≤ s.size
  · obtain ⟨n, rfl⟩ := Int.eq_ofNat_of_zero_le h.1
    rw [rv, if_pos h]
    exact rv11_in s n hs (by omega) w
  · rw [rv, if_neg h]
    go_enter Tryd.func45, Tryd.ntmps45
    go_wp2_with fail
    refine (in21 _ _ _ _).mono ?_
    rintro e w' ⟨rfl, rfl⟩
    rw [decide_eq_false h]
    clear h
    go_wp2
    go_ret3
    exact ⟨rfl, Below.refl _ _⟩

theorem rv12 (s : ByteArray) (a : Int) (hs : s.size ≤ 1048576) (w : World) :
    Calls Tryd.prog 41 #[.string s, .int .i64 a] w fun e w' => e = .returned (enc3 (rv s a)) ∧ Below w.heap.size w w' := by
  by_cases h : 0 ≤ a ∧ a ≤ s.size
  · obtain ⟨n, rfl⟩ := Int.eq_ofNat_of_zero_le h.1
    rw [rv, if_pos h]
    exact rv12_in s n hs (by omega) w
  · rw [rv, if_neg h]
    by_cases h1 : a < 0
    · go_enter Tryd.func41, Tryd.ntmps41
      go_wp2
      go_ret3
      exact ⟨rfl, Below.refl _ _⟩
    · have h2 : s.size < a := by omega
      clear h
      go_enter Tryd.func41, Tryd.ntmps41
      go_wp2
      go_ret3
      exact ⟨rfl, Below.refl _ _⟩
end Go.Proofs.YticlbaopnbddbaaDoor.V
