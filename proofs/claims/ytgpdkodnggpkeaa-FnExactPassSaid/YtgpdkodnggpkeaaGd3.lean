/-
  Guards: bits together, Allow, copies of the specification.
-/
import Derived.Test.YtgpdkodnggpkeaaGd1
import Derived.Test.YtgpdkodnggpkeaaCpu3
namespace Go.Proofs.Ytgpdkodnggpkeaa
open Go.RowKit Go.PlainAid
set_option linter.unusedVariables false
set_option linter.unusedSimpArgs false

/-- the first j bits that one of two has -/
def orJ (a b : Int) : Nat → Int
  | 0 => 0
  | j + 1 => orJ a b j + (if a / 2 ^ j % 2 = 1 ∨ b / 2 ^ j % 2 = 1 then 2 ^ j else 0)
def orI (a b : Int) : Int := orJ a b 4
theorem pow_bd (j : Nat) (h : j ≤ 4) : 1 ≤ (2 : Int) ^ j ∧ (2 : Int) ^ j ≤ 16 := by
  have : j = 0 ∨ j = 1 ∨ j = 2 ∨ j = 3 ∨ j = 4 := by omega
  rcases this with rfl | rfl | rfl | rfl | rfl <;> decide
theorem orJ_bd (a b : Int) (j : Nat) (h : j ≤ 4) : 0 ≤ orJ a b j ∧ orJ a b j ≤ 2 ^ j - 1 := by
  induction j with
  | zero => simp [orJ]
  | succ j ih =>
    have h1 := ih (by omega)
    have h2 := pow_bd j (by omega)
    have h3 : (2 : Int) ^ (j + 1) = 2 ^ j * 2 := Int.pow_succ _ _
    unfold orJ
    split <;> omega
theorem orI_bd (a b : Int) : 0 ≤ orI a b ∧ orI a b ≤ 15 := by
  have := orJ_bd a b 4 (by omega)
  unfold orI
  omega
theorem div_bd {a t : Int} (ha : 0 ≤ a ∧ a ≤ 15) (ht : 1 ≤ t) : 0 ≤ a / t ∧ a / t ≤ 15 := by
  refine ⟨Int.ediv_nonneg ha.1 (by omega), ?_⟩
  have := Int.ediv_le_self t ha.1
  omega
set_option maxRecDepth 100000 in
set_option maxHeartbeats 2000000 in
theorem bothS (a b : Int) (ha : 0 ≤ a ∧ a ≤ 15) (hb : 0 ≤ b ∧ b ≤ 15) (z : Int) (hz : orI a b = z) (w : World) :
    Calls Try.prog 48 #[.int .i64 a, .int .i64 b] w fun e w' => e = .returned (.int .i64 z) ∧ w' = w := by
  have HZ : Hid (orI a b = z) := hz
  have HA : Hid (0 ≤ a ∧ a ≤ 15) := ha
  have HB : Hid (0 ≤ b ∧ b ≤ 15) := hb
  clear hz ha hb
  go_enter Try.func48, Try.ntmps48
  go_wp2
  go_loopg [5, 6, 7] 4 (fun gk s t i wr => ∃ (j : Nat) (S T : Int), j + gk = 4 ∧ i = .int .i64 j ∧ s = .int .i64 S ∧ t = .int .i64 T ∧ Hid (S = orJ a b j ∧ T = 2 ^ j) ∧ wr = w)
  case atStart => exact ⟨0, 0, 1, by omega, rfl, rfl, rfl, (show _ ∧ _ from ⟨rfl, rfl⟩), rfl⟩
  case round =>
    obtain ⟨j, S, T, hj, rfl, rfl, rfl, HS, rfl⟩ := hrel
    by_cases hlt : j < 4
    · have hT := pow_bd j (by omega)
      rw [← HS.out.2] at hT
      have hS := orJ_bd a b j (by omega)
      rw [← HS.out.1, ← HS.out.2] at hS
      have tz : ¬ T = 0 := by omega
      obtain ⟨x, hx⟩ : ∃ x, a / T = x := ⟨_, rfl⟩
      obtain ⟨y, hy⟩ : ∃ y, b / T = y := ⟨_, rfl⟩
      have hx0 := div_bd HA.out hT.1
      have hy0 := div_bd HB.out hT.1
      rw [hx] at hx0
      rw [hy] at hy0
      have x1 : a.tdiv T = x := by rw [Int.tdiv_eq_ediv_of_nonneg HA.out.1]; exact hx
      have x2 : wrap64 x = x := wrap64_in (by omega) (by omega)
      have y1 : b.tdiv T = y := by rw [Int.tdiv_eq_ediv_of_nonneg HB.out.1]; exact hy
      have y2 : wrap64 y = y := wrap64_in (by omega) (by omega)
      obtain ⟨x3, hx3⟩ : ∃ x3, x % 2 = x3 := ⟨_, rfl⟩
      obtain ⟨y3, hy3⟩ : ∃ y3, y % 2 = y3 := ⟨_, rfl⟩
      have x4 : x.tmod 2 = x3 := by rw [Int.tmod_eq_emod_of_nonneg hx0.1]; exact hx3
      have y4 : y.tmod 2 = y3 := by rw [Int.tmod_eq_emod_of_nonneg hy0.1]; exact hy3
      have qi : IntKind.i64.wrap ((j : Int) + 1) = (j : Int) + 1 := wrap_in (by omega) (by omega)
      obtain ⟨T2, hT2⟩ : ∃ T2, 2 * T = T2 := ⟨_, rfl⟩
      have qt : IntKind.i64.wrap (2 * T) = T2 := by rw [hT2]; exact wrap_in (by omega) (by omega)
      have qt' : wrap64 (2 * T) = T2 := by rw [hT2]; exact wrap64_in (by omega) (by omega)
      obtain ⟨S2, hS2⟩ : ∃ S2, S + T = S2 := ⟨_, rfl⟩
      have qs : IntKind.i64.wrap (S + T) = S2 := by rw [hS2]; exact wrap_in (by omega) (by omega)
      have HT2 : Hid (T2 = 2 ^ (j + 1)) := by show _ = _; rw [← hT2, HS.out.2, Int.pow_succ]; omega
      have HJ : Hid (orJ a b (j + 1) = S + (if x3 = 1 ∨ y3 = 1 then T else 0)) := by
        show _ = _
        unfold orJ
        rw [← HS.out.1, ← HS.out.2, hx, hy, hx3, hy3]
      clear hT2 hx hy hx3 hy3 hT hS hx0 hy0 HS
      by_cases c1 : x3 = 1
      · have HN : Hid (S2 = orJ a b (j + 1) ∧ T2 = 2 ^ (j + 1)) := ⟨by rw [HJ.out, if_pos (Or.inl c1)]; exact hS2.symm, HT2.out⟩
        subst c1
        clear HJ HT2 hS2 y1 y2 y4
        go_wp2
        go_roundg (gk - 1)
        case measure => omega
        case rel => exact ⟨j + 1, S2, T2, by omega, by go_num, rfl, rfl, HN, rfl⟩
      · have q1 : (x3 == 1) = false := by simpa using c1
        by_cases c2 : y3 = 1
        · have HN : Hid (S2 = orJ a b (j + 1) ∧ T2 = 2 ^ (j + 1)) := ⟨by rw [HJ.out, if_pos (Or.inr c2)]; exact hS2.symm, HT2.out⟩
          subst c2
          clear HJ HT2 hS2 c1
          go_wp2
          go_roundg (gk - 1)
          case measure => omega
          case rel => exact ⟨j + 1, S2, T2, by omega, by go_num, rfl, rfl, HN, rfl⟩
        · have q2 : (y3 == 1) = false := by simpa using c2
          have HN : Hid (S = orJ a b (j + 1) ∧ T2 = 2 ^ (j + 1)) := ⟨by rw [HJ.out, if_neg (by omega)]; omega, HT2.out⟩
          clear HJ HT2 hS2 c1 c2 qs
          go_wp2
          go_roundg (gk - 1)
          case measure => omega
          case rel => exact ⟨j + 1, S, T2, by omega, by go_num, rfl, rfl, HN, rfl⟩
    · obtain rfl : j = 4 := by omega
      have HE : Hid (S = z) := by show _ = _; rw [HS.out.1]; exact HZ.out
      clear HS HZ
      go_wp2
      go_ret
      exact ⟨by rw [HE.out]; rfl, rfl⟩
theorem lesS (a b z : Int) (hz : min a b = z) (w : World) : Calls Try.prog 51 #[.int .i64 a, .int .i64 b] w fun e w' => e = .returned (.int .i64 z) ∧ w' = w := by
  by_cases h : a < b
  · obtain rfl : a = z := by omega
    clear hz
    go_enter Try.func51, Try.ntmps51
    go_wp2
    go_ret
    exact ⟨rfl, rfl⟩
  · obtain rfl : b = z := by omega
    clear hz
    go_enter Try.func51, Try.ntmps51
    go_wp2
    go_ret
    exact ⟨rfl, rfl⟩
/-- what is let through of x -/
def letG (l : List Int) (x : Int) : Int := max (min x (30 - sumN l)) 0
set_option maxRecDepth 100000 in
set_option maxHeartbeats 2000000 in
theorem allowS (a : Option Addr) (al : Int) (l : List Int) (n cap : Nat) (x : Int) (b : Bool) (z : Int) (hl : l.length = n) (hn : n ≤ 9223372036854775807) (hb : b = true ↔ GdR l al) (hz : (if b = true ∧ al = 0 then letG l x else 0) = z) (w : World) (hr : Rd w a l) :
    Calls Try.prog 28 #[.agg #[.slice a n cap, .int .i64 al], .int .i64 x] w fun e w' => e = .returned (.int .i64 z) ∧ Below w.heap.size w w' := by
  have HB : Hid (b = true ↔ GdR l al) := hb
  have HL : Hid (l.length = n) := hl
  have HZ : Hid ((if b = true ∧ al = 0 then letG l x else 0) = z) := hz
  obtain ⟨h1, h2, h3⟩ := box2 w (.slice a n cap) (.int .i64 al) 26
  have HX : Hid (_ = _) := h1
  have HW : Hid (Below _ _ _) := h2
  have HR : Hid (Rd _ a l) := hr.keep h2 (Nat.le_refl _)
  have k0 := row2_cells h1
  clear hb hl hr hz h1 h2 h3
  go_enter Try.func28, Try.ntmps28
  go_wp2_with fail
  refine (guardokS a al l n cap b HL.out hn HB.out _ HR.out).mono ?_
  rintro e w1 ⟨rfl, hb1⟩
  have HX1 : Hid (w1.heap[w.heap.size]? = _) := row_on HX.out hb1
  have HW1 : Hid (Below w.heap.size w w1) := bel_on (Nat.le_refl _) HW.out hb1
  have HR1 : Hid (Rd w1 a l) := HR.out.keep hb1 (Nat.le_refl _)
  have k1 := row2_cells HX1.out
  clear hb1 HX HW HR k0
  cases b
  · have HE : Hid (z = 0) := by show _ = _; rw [← HZ.out]; simp
    go_wp2
    go_ret
    exact ⟨by rw [HE.out]; rfl, HW1.out⟩
  by_cases c1 : al = 0
  case neg =>
    have HE : Hid (z = 0) := by show _ = _; rw [← HZ.out]; simp [c1]
    have q1 : (al != 0) = true := by simpa using c1
    go_wp2
    go_ret
    exact ⟨by rw [HE.out]; rfl, HW1.out⟩
  subst c1
  have hz := HZ.out
  simp only [and_self, if_true] at hz
  unfold letG at hz
  have hrm := room_bd (HB.out.1 rfl)
  by_cases c2 : x < 0
  · obtain rfl : z = 0 := by omega
    clear hz hrm
    go_wp2
    go_ret
    exact ⟨rfl, HW1.out⟩
  · obtain ⟨R, hR⟩ : ∃ R, 30 - sumN l = R := ⟨_, rfl⟩
    rw [hR] at hrm hz
    have HM : Hid (min x R = z) := by show _ = _; omega
    have HRM : Hid (IntKind.i64.wrap (30 - sumW l) = R) := hrm.1
    clear hz hrm hR HZ
    go_wp2_with fail
    refine (roomS a 0 l n cap R HRM.out HL.out hn _ HR1.out).mono ?_
    rintro e w2 ⟨rfl, hb2⟩
    have HW2 : Hid (Below w.heap.size w w2) := bel_on (Nat.le_refl _) HW1.out hb2
    clear hb2
    go_wp2_with fail
    refine (lesS x R z HM.out _).mono ?_
    rintro e w3 ⟨rfl, rfl⟩
    go_wp2
    go_ret
    exact ⟨rfl, HW2.out⟩
set_option maxRecDepth 100000 in
set_option maxHeartbeats 1000000 in
theorem copyGS (a : Option Addr) (al : Int) (l : List Int) (n cap : Nat) (hl : l.length = n) (hn : n ≤ 1048576) (ha : a = none → n = 0 ∧ cap = 0) (w : World) (hr : Rd w a l) :
    Calls Try.prog 47 #[.agg #[.slice a n cap, .int .i64 al]] w fun e w' => ∃ g c, e = .returned (.agg #[.slice (some ⟨g, 0, none⟩) n c, .int .i64 al]) ∧ OwnN w' (w.heap.size + 2) g n c l ∧ Below w.heap.size w w' := by
  obtain ⟨hA, hZ, hW, hS⟩ := box2b w (.slice a n cap) (.int .i64 al) (.slice none 0 0) (.int .i64 0) 26 26
  have HA : Hid (_ = _) := hA
  have HZ : Hid (_ = _) := hZ
  have HW : Hid (Below _ _ _) := hW
  have HS : Hid (_ = _) := hS
  have HR : Hid (Rd w a l) := hr
  have HL : Hid (l.length = n) := hl
  have HN : Hid (a = none → n = 0 ∧ cap = 0) := ha
  have HQ : Hid (_ ∧ _ ∧ _) := ⟨(row2_cells hA).1, (row2_cells hA).2.1, hW⟩
  clear hA hZ hW hS hr hl ha
  go_enter Try.func47, Try.ntmps47
  go_wp2_with fail
  generalize hW0 : (w.alloc (.cells #[.slice a n cap, .int .i64 al] 26)).alloc (.cells #[.slice none 0 0, .int .i64 0] 26) = W0 at *
  clear hW0
  have HS2 : Hid (w.heap.size + 2 ≤ W0.heap.size) := by rw [HS.out]; exact Nat.le_refl _
  go_region_held3 (fun w' => w'.cell? ⟨w.heap.size, 0, none⟩ = some (.slice a n cap) ∧ w'.cell? ⟨w.heap.size, 1, none⟩ = some (.int .i64 al) ∧ Below w.heap.size w w') (first | (exact HSz.out) | (exact l6_set (by omega) (l6_set (by omega) HSz.out)) | (exact l6_alloc (by assumption) _) | (exact ⟨HQ.out.1, HQ.out.2.1, HQ.out.2.2.drew⟩)) (first | (refine anyN rfl (.tmp 3) (.tmp 5) rfl (w.heap.size + 2) W0.heap.size 0 0 [] a n cap l rfl rfl (own_new W0 _ HS2.out).drew HL.out HN.out ?_ (by omega) (Nat.le_trans HS2.out (by simp)) ?_; (exact (HR.out.keep (And.right (And.right (by assumption))) (Nat.le_refl _))); intro g3 c3 w3 hown3 hgr3 hat3; have HSz : Hid (_ ∧ _ ∧ _) := l6_grown (by assumption) hgr3 (by have := HS2.out; omega); have HO3 : Hid (OwnN w3 _ _ _ _ _) := hown3; have kz := row2_cells (grown_row hgr3 ((Below.heap_alloc _ _ _ (row_lt HZ.out)).trans HZ.out) (by intro e; have := Option.some.inj e; have := HS.out; omega)); clear hown3 hgr3 hat3))
  rename_i hHeld
  have HSe : Hid (_ ∧ _ ∧ _) := hHeld
  clear hHeld
  go_wp2
  refine bodyPost_ret (v := .agg #[.slice (some ⟨g3, 0, none⟩) n c3, .int .i64 al]) (by simp [results, Try.results47, go_sem, kz]) rfl ⟨g3, c3, rfl, ?_, HSe.out.2.2⟩
  have h := HO3.out
  have hge := h.ge
  rw [Nat.zero_add, List.nil_append] at h
  exact own_setOther (own_setOther h (fun k hk => by simp [Value.ownBlock] at hk; omega)) (fun k hk => by simp [Value.ownBlock] at hk; omega)
end Go.Proofs.Ytgpdkodnggpkeaa
