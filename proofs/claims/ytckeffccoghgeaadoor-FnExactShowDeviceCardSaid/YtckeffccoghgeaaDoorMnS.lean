/-
  Menus of the specification: MenuNew, MenuOk, what is typed, the top.
-/
import Derived.Test.YtckeffccoghgeaaDoorMnA
namespace Go.Proofs.YtckeffccoghgeaaDoor
open Go.RowKit Go.PlainAid
set_option linter.unusedVariables false
set_option linter.unusedSimpArgs false

theorem okM_at {m : Mn} (h : ¬ (1 ≤ m.a ∧ m.a ≤ 4)) : okM m = false := by
  cases e : okM m
  · rfl
  · exact absurd ((okM_iff m).1 e).1.1 h
theorem okM_n {m : Mn} (h : ¬ (0 ≤ m.n ∧ m.n ≤ 9999)) : okM m = false := by
  cases e : okM m
  · rfl
  · exact absurd ((okM_iff m).1 e).1.2.1 h
theorem okM_d {m : Mn} (h : ¬ (0 ≤ m.d ∧ m.d ≤ 9999)) : okM m = false := by
  cases e : okM m
  · rfl
  · exact absurd ((okM_iff m).1 e).1.2.2.1 h
theorem okM_l {m : Mn} (h : ¬ m.s.length ≤ 4) : okM m = false := by
  cases e : okM m
  · rfl
  · exact absurd ((okM_iff m).1 e).1.2.2.2 h
theorem okM_f {m : Mn} {k : Nat} (hk : k < m.s.length) (h : ¬ (48 ≤ (m.s[k].toNat : Int) ∧ (m.s[k].toNat : Int) ≤ 57)) : okM m = false := by
  cases e : okM m
  · rfl
  · exact absurd (of_decide_eq_true (((okM_iff m).1 e).2.1 _ (List.getElem_mem hk))) h
theorem okM_t {m : Mn} (h1 : m.a = 1) (h : ¬ (m.s = [] ∧ m.b = false ∧ m.n = 0 ∧ m.d = 0)) : okM m = false := by
  cases e : okM m
  · rfl
  · exact absurd (((okM_iff m).1 e).2.2 h1) h
def FigJ (s : List UInt8) (j : Nat) : Prop := ∀ k (h : k < s.length), k < j → figB s[k] = true
theorem figJ_zero (s : List UInt8) : FigJ s 0 := fun k _ h => by omega
theorem figJ_succ {s : List UInt8} {j : Nat} (h : FigJ s j) (hj : j < s.length) (hf : 48 ≤ (s[j].toNat : Int) ∧ (s[j].toNat : Int) ≤ 57) : FigJ s (j + 1) := fun k hk hlt => by
  rcases Nat.lt_or_ge k j with h1 | h1
  · exact h k hk h1
  · obtain rfl : k = j := by omega
    exact decide_eq_true hf
theorem figJ_all {s : List UInt8} {j : Nat} (h : FigJ s j) (hj : s.length ≤ j) : ∀ x ∈ s, figB x = true := fun x hx => by
  obtain ⟨k, hk, rfl⟩ := List.getElem_of_mem hx
  exact h k hk (by omega)
set_option maxRecDepth 100000 in
set_option maxHeartbeats 4000000 in
theorem menuokS (m : Mn) (B : Bool) (hB : okM m = B) (w : World) : Calls Tryd.prog 30 #[mnV m] w fun e w' => e = .returned (.bool B) ∧ Below w.heap.size w w' := by
  obtain ⟨a, b, n, d, s⟩ := m
  obtain ⟨S, hS⟩ : ∃ S : ByteArray, (⟨s.toArray⟩ : ByteArray) = S := ⟨_, rfl⟩
  unfold mnV
  dsimp only
  rw [hS]
  have hsz := txt_size hS
  have HBT : Hid (∀ k (h : k < s.length), bt S k = (s[k].toNat : Int)) := txt_bt hS
  have HNIL : Hid ((S.toList = []) ↔ s = []) := txt_nil hS
  have HO : Hid (okM ⟨a, b, n, d, s⟩ = B) := hB
  have HB : Hid (Below w.heap.size w (w.alloc (.cells #[.int .i64 a, .bool b, .int .i64 n, .int .i64 d, .string S] 40))) := alM _ _
  have HP : Hid ((w.alloc (.cells #[.int .i64 a, .bool b, .int .i64 n, .int .i64 d, .string S] 40)).heap[w.heap.size]? = some (.cells #[.int .i64 a, .bool b, .int .i64 n, .int .i64 d, .string S] 40)) := heap_new w _
  have p := box5_cells HP.out
  have hbt := get_bt S
  clear hS hB
  go_enter Tryd.func30, Tryd.ntmps30
  obtain ⟨B1, hB1⟩ : ∃ B1, decide (1 ≤ a ∧ a ≤ 4) = B1 := ⟨_, rfl⟩
  have H1 : Hid (decide (1 ≤ a ∧ a ≤ 4) = B1) := hB1
  clear hB1
  go_wp2_with fail
  refine (inS 1 4 a B1 H1.out _).mono ?_
  rintro e W ⟨rfl, hW⟩
  have HB1 : Hid (Below w.heap.size w W) := by rw [hW]; exact HB.out
  have HP1 : Hid (W.heap[w.heap.size]? = some (.cells #[.int .i64 a, .bool b, .int .i64 n, .int .i64 d, .string S] 40)) := by rw [hW]; exact HP.out
  have p1 := box5_cells HP1.out
  clear hW HB HP p
  cases B1
  · obtain rfl : false = B := by rw [← HO.out]; exact (okM_at (of_decide_eq_false H1.out)).symm
    go_wp2
    go_ret
    exact ⟨rfl, HB1.out⟩
  have h1 := of_decide_eq_true H1.out
  clear H1
  by_cases h2 : 0 ≤ n ∧ n ≤ 9999
  case neg =>
    obtain rfl : false = B := by rw [← HO.out]; exact (okM_n h2).symm
    go_wp2_with fail
    refine (inS 0 9999 n false (decide_eq_false h2) _).mono ?_
    rintro e w1 ⟨rfl, hw⟩
    obtain rfl : W = w1 := hw.symm
    go_wp2
    go_ret
    exact ⟨rfl, HB1.out⟩
  go_wp2_with fail
  refine (inS 0 9999 n true (decide_eq_true h2) _).mono ?_
  rintro e w1 ⟨rfl, hw⟩
  obtain rfl : W = w1 := hw.symm
  by_cases h3 : 0 ≤ d ∧ d ≤ 9999
  case neg =>
    obtain rfl : false = B := by rw [← HO.out]; exact (okM_d h3).symm
    go_wp2_with fail
    refine (inS 0 9999 d false (decide_eq_false h3) _).mono ?_
    rintro e w1 ⟨rfl, hw⟩
    obtain rfl : W = w1 := hw.symm
    go_wp2
    go_ret
    exact ⟨rfl, HB1.out⟩
  go_wp2_with fail
  refine (inS 0 9999 d true (decide_eq_true h3) _).mono ?_
  rintro e w1 ⟨rfl, hw⟩
  obtain rfl : W = w1 := hw.symm
  by_cases h4 : S.size ≤ 4
  case neg =>
    obtain rfl : false = B := by rw [← HO.out]; exact (okM_l (by show ¬ s.length ≤ 4; omega)).symm
    have h4' : (4 : Int) < S.size := by omega
    go_wp2
    go_ret
    exact ⟨rfl, HB1.out⟩
  have h4' : ¬ (4 : Int) < S.size := by omega
  have HA : Hid ((1 ≤ a ∧ a ≤ 4) ∧ (0 ≤ n ∧ n ≤ 9999) ∧ (0 ≤ d ∧ d ≤ 9999) ∧ s.length ≤ 4) := ⟨h1, h2, h3, by omega⟩
  clear h1 h2 h3
  go_wp2
  go_loopg [3] S.size (fun gk i wr => ∃ j : Nat, j + gk = S.size ∧ i = .int .i64 j ∧ Hid (FigJ s j) ∧ wr = W)
  case atStart => exact ⟨0, by omega, rfl, figJ_zero s, rfl⟩
  case round =>
    obtain ⟨j, hj, rfl, HI, rfl⟩ := hrel
    by_cases hlt : j < S.size
    · have hjl : j < s.length := by omega
      have hb0 := HBT.out j hjl
      have b0 := bt_nonneg S j
      have b1 := bt_le S j
      by_cases hf : 48 ≤ bt S j ∧ bt S j ≤ 57
      · have HI' : Hid (FigJ s (j + 1)) := figJ_succ HI.out hjl (by rw [← hb0]; exact hf)
        have f0 : ¬ bt S j < 48 := by omega
        have f1 : ¬ 57 < bt S j := by omega
        clear hb0 hf HI hjl
        go_wp2
        go_roundg (gk - 1)
        case measure => omega
        case rel => exact ⟨j + 1, by omega, by go_num, HI', rfl⟩
      · obtain rfl : false = B := by rw [← HO.out]; exact (okM_f (m := ⟨a, b, n, d, s⟩) hjl (by show ¬ (48 ≤ (s[j].toNat : Int) ∧ (s[j].toNat : Int) ≤ 57); rw [← hb0]; exact hf)).symm
        clear hb0 HI hjl
        by_cases f0 : bt S j < 48
        · go_wp2
          go_ret
          exact ⟨rfl, HB1.out⟩
        · have f1 : 57 < bt S j := by omega
          go_wp2
          go_ret
          exact ⟨rfl, HB1.out⟩
    · have HF : Hid (∀ x ∈ s, figB x = true) := figJ_all HI.out (by omega)
      clear HI
      by_cases a1 : a = 1
      case neg =>
        obtain rfl : true = B := by rw [← HO.out]; exact ((okM_iff _).2 ⟨HA.out, HF.out, fun e => absurd e a1⟩).symm
        have q1 : (a != 1) = true := by simpa using a1
        go_wp2
        go_ret
        exact ⟨rfl, HB1.out⟩
      subst a1
      by_cases hs : S.toList = []
      case neg =>
        obtain rfl : false = B := by rw [← HO.out]; exact (okM_t rfl (fun h => hs (HNIL.out.2 h.1))).symm
        go_wp2
        go_ret
        exact ⟨rfl, HB1.out⟩
      have HS : Hid (s = []) := HNIL.out.1 hs
      cases b
      case true =>
        obtain rfl : false = B := by rw [← HO.out]; exact (okM_t rfl (fun h => by cases h.2.1)).symm
        go_wp2
        go_ret
        exact ⟨rfl, HB1.out⟩
      by_cases hn : n = 0
      case neg =>
        obtain rfl : false = B := by rw [← HO.out]; exact (okM_t rfl (fun h => hn h.2.2.1)).symm
        have q3 : (n == 0) = false := by simpa using hn
        go_wp2
        go_ret
        exact ⟨rfl, HB1.out⟩
      by_cases hd : d = 0
      case neg =>
        obtain rfl : false = B := by rw [← HO.out]; exact (okM_t rfl (fun h => hd h.2.2.2)).symm
        subst hn
        have q4 : (d == 0) = false := by simpa using hd
        go_wp2
        go_ret
        exact ⟨rfl, HB1.out⟩
      obtain rfl : true = B := by rw [← HO.out]; exact ((okM_iff _).2 ⟨HA.out, HF.out, fun e => ⟨HS.out, rfl, hn, hd⟩⟩).symm
      subst hn
      subst hd
      go_wp2
      go_ret
      exact ⟨rfl, HB1.out⟩
def numJ (s : List UInt8) (j : Nat) : Int := numF (s.take j)
theorem numJ_succ {s : List UInt8} {j : Nat} (h : j < s.length) : numJ s (j + 1) = 10 * numJ s j + (s[j].toNat : Int) - 48 := by
  unfold numJ numF
  rw [← List.take_append_getElem h, List.foldl_append]
  rfl
theorem numJ_bd {s : List UInt8} (hf : ∀ x ∈ s, figB x = true) (hl : s.length ≤ 4) (j : Nat) : 0 ≤ numJ s j ∧ numJ s j ≤ 9999 := numF_bd (fun x hx => hf x (List.mem_of_mem_take hx)) (by simp; omega)
end Go.Proofs.YtckeffccoghgeaaDoor
