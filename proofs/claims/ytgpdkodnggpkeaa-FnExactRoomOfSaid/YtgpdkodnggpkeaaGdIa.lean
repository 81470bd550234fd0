/-
  Guards of the program: RoomOf, GuardOk, Allow, Feel.
-/
import Derived.Test.YtgpdkodnggpkeaaGd4
namespace Go.Proofs.Ytgpdkodnggpkeaa
open Go.RowKit Go.PlainAid
set_option linter.unusedVariables false
set_option linter.unusedSimpArgs false

set_option maxRecDepth 100000 in
set_option maxHeartbeats 1000000 in
theorem intoI (l m n z : Int) (hz : min (max n l) m = z) (w : World) : Calls Try.prog 53 #[.agg #[.int .i64 l, .int .i64 m], .int .i64 n] w fun e w' => e = .returned (.int .i64 z) ∧ Below w.heap.size w w' := by
  by_cases h1 : l ≤ n
  · by_cases h2 : n ≤ m
    · obtain rfl : n = z := by omega
      clear hz
      go_enter Try.func53, Try.ntmps53
      go_wp2
      go_ret
      exact ⟨rfl, (Below.refl _ _).alloc (Nat.le_refl _) _⟩
    · obtain rfl : m = z := by omega
      clear hz
      go_enter Try.func53, Try.ntmps53
      go_wp2
      go_ret
      exact ⟨rfl, (Below.refl _ _).alloc (Nat.le_refl _) _⟩
  · by_cases h2 : l ≤ m
    · obtain rfl : l = z := by omega
      clear hz
      go_enter Try.func53, Try.ntmps53
      go_wp2
      go_ret
      exact ⟨rfl, (Below.refl _ _).alloc (Nat.le_refl _) _⟩
    · obtain rfl : m = z := by omega
      clear hz
      go_enter Try.func53, Try.ntmps53
      go_wp2
      go_ret
      exact ⟨rfl, (Below.refl _ _).alloc (Nat.le_refl _) _⟩
theorem wrap_sub (s x : Int) : IntKind.i64.wrap (IntKind.i64.wrap s - x) = IntKind.i64.wrap (s - x) := by
  rw [IntKind.wrap_i64, IntKind.wrap_i64, IntKind.wrap_i64]
  omega
theorem wrap_sub2 (s x : Int) : IntKind.i64.wrap (s - IntKind.i64.wrap x) = IntKind.i64.wrap (s - x) := by
  rw [IntKind.wrap_i64, IntKind.wrap_i64, IntKind.wrap_i64]
  omega
set_option maxRecDepth 100000 in
set_option maxHeartbeats 1000000 in
theorem roomI (a : Option Addr) (al : Int) (l : List Int) (n cap : Nat) (R : Int) (hR : IntKind.i64.wrap (30 - sumW l) = R) (hl : l.length = n) (hn : n ≤ 1048576) (w : World) (hr : Rd w a l) :
    Calls Try.prog 14 #[.agg #[.slice a n cap, .int .i64 al]] w fun e w' => e = .returned (.int .i64 R) ∧ Below w.heap.size w w' := by
  have HB : Hid (Below w.heap.size w (w.alloc (.cells #[.slice a n cap, .int .i64 al] 26))) := alG _ _
  have HR : Hid (Rd (w.alloc (.cells #[.slice a n cap, .int .i64 al] 26)) a l) := hr.keep HB.out (Nat.le_refl _)
  have HL : Hid (l.length = n) := hl
  have HE : Hid (IntKind.i64.wrap (30 - sumN l) = R) := by show _ = _; rw [← hR]; unfold sumW; exact (wrap_sub2 _ _).symm
  have k0 := row2_cells (heap_new w (.cells #[.slice a n cap, .int .i64 al] 26))
  clear hl hr hR
  go_enter Try.func14, Try.ntmps14
  go_wp2
  generalize w.alloc (.cells #[.slice a n cap, .int .i64 al] 26) = W at *
  go_loopg [3, 9] n (fun gk s i wr => ∃ (j : Nat) (S : Int), j + gk = n ∧ i = .int .i64 j ∧ s = .int .i64 S ∧ Hid (S = IntKind.i64.wrap (30 - sumN (l.take j))) ∧ wr = W)
  case atStart => exact ⟨0, 30, by omega, rfl, rfl, (by show _ = _; rw [List.take_zero]; exact (wrap_in (by simp [sumN]) (by simp [sumN])).symm), rfl⟩
  case round =>
    obtain ⟨j, S, hj, rfl, rfl, HS, rfl⟩ := hrel
    by_cases hlt : j < n
    · have hjl : j < l.length := by have := HL.out; omega
      obtain ⟨g, off, ha, hc⟩ := HR.out (by omega)
      subst ha
      have c1 := hc j hjl
      clear hc
      obtain ⟨x, hx⟩ : ∃ x, l[j] = x := ⟨_, rfl⟩
      rw [hx] at c1
      obtain ⟨T, hT⟩ : ∃ T, IntKind.i64.wrap (S - x) = T := ⟨_, rfl⟩
      have HT : Hid (T = IntKind.i64.wrap (30 - sumN (l.take (j + 1)))) := by
        show _ = _
        rw [← hT, HS.out, ← hx, sumN_take hjl, wrap_sub]
        congr 1
        omega
      clear hx HS
      go_wp2
      go_roundg (gk - 1)
      case measure => omega
      case rel => exact ⟨j + 1, T, by omega, by go_num, rfl, HT, rfl⟩
    · obtain rfl : j = n := by omega
      have HF : Hid (S = R) := by show _ = _; rw [HS.out, ← HE.out, ← HL.out, List.take_length]
      clear HS
      go_wp2
      go_ret
      exact ⟨by rw [HF.out]; rfl, HB.out⟩
set_option maxRecDepth 100000 in
set_option maxHeartbeats 1000000 in
theorem pulsI (a : Option Addr) (l : List Int) (n cap : Nat) (B : Bool) (hB : B = true ↔ AllG l l.length) (hl : l.length = n) (hn : n ≤ 1048576) (w : World) (hr : Rd w a l) :
    Calls Try.prog 40 #[.slice a n cap] w fun e w' => e = .returned (.bool B) ∧ Below w.heap.size w w' := by
  have HB : Hid (B = true ↔ AllG l l.length) := hB
  have HL : Hid (l.length = n) := hl
  have HR : Hid (Rd w a l) := hr
  clear hl hr hB
  go_enter Try.func40, Try.ntmps40
  go_wp2
  go_loopg [7] n (fun gk i wr => ∃ (j : Nat), j + gk = n ∧ i = .int .i64 j ∧ Hid (AllG l j) ∧ Hid (Below w.heap.size w wr))
  case atStart => exact ⟨0, by omega, rfl, allG_zero l, Below.refl _ _⟩
  case round =>
    obtain ⟨j, hj, rfl, HI, HW⟩ := hrel
    by_cases hlt : j < n
    · have hjl : j < l.length := by have := HL.out; omega
      obtain ⟨g, off, ha, hc⟩ := HR.out (by omega)
      subst ha
      have c1 := (HW.out.cell (p := ⟨g, off + j, none⟩) (World.block_lt_of_cell? w ⟨g, off + j, none⟩ (hc j hjl))).trans (hc j hjl)
      clear hc
      obtain ⟨x, hx⟩ : ∃ x, l[j] = x := ⟨_, rfl⟩
      rw [hx] at c1
      have HF : Hid (l[j] = x) := hx
      clear hx
      by_cases hf : 0 ≤ x ∧ x ≤ 30
      · have hd : decide ((0 : Int) ≤ x ∧ x ≤ 30) = true := decide_eq_true hf
        have HI' : Hid (AllG l (j + 1)) := allG_succ HI.out hjl (by rw [HF.out]; exact hf)
        clear hf HI
        go_wp2_with fail
        refine (H.holdsI 0 30 x true hd _).mono ?_
        rintro e w1 ⟨rfl, hb1⟩
        have HW1 : Hid (Below w.heap.size w w1) := bel_on (Nat.le_refl _) HW.out hb1
        clear hd hb1
        go_wp2
        go_roundg (gk - 1)
        case measure => omega
        case rel => exact ⟨j + 1, by omega, by go_num, HI', HW1⟩
      · have hd : decide ((0 : Int) ≤ x ∧ x ≤ 30) = false := decide_eq_false hf
        have HE : Hid (B = false) := by
          show _ = _
          cases B
          · rfl
          · exact absurd (by have := HB.out.1 rfl j hjl hjl; rw [HF.out] at this; exact this) hf
        clear hf HI
        go_wp2_with fail
        refine (H.holdsI 0 30 x false hd _).mono ?_
        rintro e w1 ⟨rfl, hb1⟩
        have HW1 : Hid (Below w.heap.size w w1) := bel_on (Nat.le_refl _) HW.out hb1
        clear hd hb1
        go_wp2
        go_ret
        exact ⟨by rw [HE.out]; rfl, HW1.out⟩
    · have HE : Hid (B = true) := HB.out.2 (fun i h _ => HI.out i h (by have := HL.out; omega))
      clear HI
      go_wp2
      go_ret
      exact ⟨by rw [HE.out]; rfl, HW.out⟩
theorem puls_bool (l : List Int) : ∃ b : Bool, b = true ↔ AllG l l.length := by
  by_cases h : AllG l l.length
  · exact ⟨true, fun _ => h, fun _ => rfl⟩
  · exact ⟨false, fun e => (by cases e), fun e => absurd e h⟩
set_option maxRecDepth 100000 in
set_option maxHeartbeats 2000000 in
theorem guardokI (a : Option Addr) (al : Int) (l : List Int) (n cap : Nat) (b : Bool) (hl : l.length = n) (hn : n ≤ 9223372036854775807) (hb : b = true ↔ GdR l al) (w : World) (hr : Rd w a l) :
    Calls Try.prog 16 #[.agg #[.slice a n cap, .int .i64 al]] w fun e w' => e = .returned (.bool b) ∧ Below w.heap.size w w' := by
  have HB : Hid (b = true ↔ GdR l al) := hb
  have HL : Hid (l.length = n) := hl
  obtain ⟨h1, h2, h3⟩ := box2 w (.slice a n cap) (.int .i64 al) 26
  have HX : Hid (_ = _) := h1
  have HW : Hid (Below _ _ _) := h2
  have HR : Hid (Rd _ a l) := hr.keep h2 (Nat.le_refl _)
  have k0 := row2_cells h1
  clear hb hl hr h1 h2 h3
  by_cases hal : 0 ≤ al ∧ al ≤ 15
  case neg =>
    have HE : Hid (b = false) := not_gd HB.out (fun h => hal h.2.1)
    have hd : decide ((0 : Int) ≤ al ∧ al ≤ 15) = false := decide_eq_false hal
    go_enter Try.func16, Try.ntmps16
    go_wp2_with fail
    refine (H.senseI al false hd _).mono ?_
    rintro e w1 ⟨rfl, hb1⟩
    have HW1 : Hid (Below w.heap.size w w1) := bel_on (Nat.le_refl _) HW.out hb1
    clear hb1
    go_wp2
    go_ret
    exact ⟨by rw [HE.out]; rfl, HW1.out⟩
  have HAL : Hid (0 ≤ al ∧ al ≤ 15) := hal
  have hd : decide ((0 : Int) ≤ al ∧ al ≤ 15) = true := decide_eq_true hal
  clear hal
  go_enter Try.func16, Try.ntmps16
  go_wp2_with fail
  refine (H.senseI al true hd _).mono ?_
  rintro e w1 ⟨rfl, hb1⟩
  have HX1 : Hid (w1.heap[w.heap.size]? = _) := row_on HX.out hb1
  have HW1 : Hid (Below w.heap.size w w1) := bel_on (Nat.le_refl _) HW.out hb1
  have HR1 : Hid (Rd w1 a l) := HR.out.keep hb1 (Nat.le_refl _)
  have k1 := row2_cells HX1.out
  clear hb1 hd HX HW HR k0
  by_cases h9 : n ≤ 9
  case neg =>
    have HE : Hid (b = false) := not_gd HB.out (fun h => by have := h.1; have := HL.out; omega)
    have h9' : ¬ (n : Int) ≤ 9 := by omega
    go_wp2
    go_ret
    exact ⟨by rw [HE.out]; rfl, HW1.out⟩
  have h9' : (n : Int) ≤ 9 := by omega
  obtain ⟨B, hB⟩ := puls_bool l
  have HP : Hid (B = true ↔ AllG l l.length) := hB
  clear hB
  go_wp2_with fail
  refine (pulsI a l n cap B HP.out HL.out (by omega) _ HR1.out).mono ?_
  rintro e w2 ⟨rfl, hb1⟩
  have HX2 : Hid (w2.heap[w.heap.size]? = _) := row_on HX1.out hb1
  have HW2 : Hid (Below w.heap.size w w2) := bel_on (Nat.le_refl _) HW1.out hb1
  have HR2 : Hid (Rd w2 a l) := HR1.out.keep hb1 (Nat.le_refl _)
  have k2 := row2_cells HX2.out
  clear hb1 HX1 HW1 HR1 k1
  cases B
  · have HE : Hid (b = false) := not_gd HB.out (fun h => by have := HP.out.2 (fun i hi _ => h.2.2.1 i hi); cases this)
    go_wp2
    go_ret
    exact ⟨by rw [HE.out]; rfl, HW2.out⟩
  have HS : Hid (sumW l = sumN l) := sumW_in (fun i h => HP.out.1 rfl i h h) (by have := HL.out; omega)
  have hbd := sumN_bd (l := l) (fun i h => HP.out.1 rfl i h h)
  have hlen := HL.out
  obtain ⟨R, hR⟩ : ∃ R, 30 - sumN l = R := ⟨_, rfl⟩
  have HRM : Hid (IntKind.i64.wrap (30 - sumW l) = R) := by show _ = _; rw [HS.out, hR]; exact wrap_in (by omega) (by omega)
  have HE : Hid (b = decide (0 ≤ R)) := by
    show _ = _
    have h0 : 0 ≤ R ↔ sumN l ≤ 30 := by omega
    by_cases h : 0 ≤ R
    · rw [decide_eq_true h]; exact HB.out.2 ⟨by omega, HAL.out, fun i hi => HP.out.1 rfl i hi hi, h0.1 h⟩
    · rw [decide_eq_false h]; exact not_gd HB.out (fun x => h (h0.2 x.2.2.2))
  clear hbd hlen hR
  go_wp2_with fail
  refine (roomI a al l n cap R HRM.out HL.out (by omega) _ HR2.out).mono ?_
  rintro e w3 ⟨rfl, hb1⟩
  have HW3 : Hid (Below w.heap.size w w3) := bel_on (Nat.le_refl _) HW2.out hb1
  clear hb1
  go_wp2
  go_ret
  exact ⟨by rw [HE.out]; rfl, HW3.out⟩
set_option maxRecDepth 100000 in
set_option maxHeartbeats 1000000 in
theorem inRoomI (a : Option Addr) (al : Int) (l : List Int) (n cap : Nat) (x z : Int) (hG : GdR l al) (hz : letG l x = z) (hl : l.length = n) (hn : n ≤ 1048576) (w : World) (hr : Rd w a l) :
    Calls Try.prog 34 #[.agg #[.slice a n cap, .int .i64 al], .int .i64 x] w fun e w' => e = .returned (.int .i64 z) ∧ Below w.heap.size w w' := by
  have HL : Hid (l.length = n) := hl
  obtain ⟨h1, h2, h3⟩ := box2 w (.slice a n cap) (.int .i64 al) 26
  have HX : Hid (_ = _) := h1
  have HW : Hid (Below _ _ _) := h2
  have HR : Hid (Rd _ a l) := hr.keep h2 (Nat.le_refl _)
  have k0 := row2_cells h1
  have hrm := room_bd hG
  obtain ⟨R, hR⟩ : ∃ R, 30 - sumN l = R := ⟨_, rfl⟩
  unfold letG at hz
  rw [hR] at hrm hz
  have HRM : Hid (IntKind.i64.wrap (30 - sumW l) = R) := hrm.1
  have HM : Hid (min (max x 0) R = z) := by show _ = _; omega
  clear hl hr h1 h2 h3 hrm hR hz hG
  go_enter Try.func34, Try.ntmps34
  go_wp2_with fail
  refine (roomI a al l n cap R HRM.out HL.out hn _ HR.out).mono ?_
  rintro e w1 ⟨rfl, hb1⟩
  have HW1 : Hid (Below w.heap.size w w1) := bel_on (Nat.le_refl _) HW.out hb1
  clear hb1
  go_wp2_with fail
  refine (intoI 0 R x z HM.out _).mono ?_
  rintro e w2 ⟨rfl, hb1⟩
  have HW2 : Hid (Below w.heap.size w w2) := bel_on (Nat.le_refl _) HW1.out hb1
  clear hb1
  go_wp2
  go_ret
  exact ⟨rfl, HW2.out⟩
set_option maxRecDepth 100000 in
set_option maxHeartbeats 2000000 in
theorem allowI (a : Option Addr) (al : Int) (l : List Int) (n cap : Nat) (x : Int) (b : Bool) (z : Int) (hl : l.length = n) (hn : n ≤ 1048576) (hb : b = true ↔ GdR l al) (hz : (if b = true ∧ al = 0 then letG l x else 0) = z) (w : World) (hr : Rd w a l) :
    Calls Try.prog 13 #[.agg #[.slice a n cap, .int .i64 al], .int .i64 x] w fun e w' => e = .returned (.int .i64 z) ∧ Below w.heap.size w w' := by
  have HB : Hid (b = true ↔ GdR l al) := hb
  have HL : Hid (l.length = n) := hl
  have HZ : Hid ((if b = true ∧ al = 0 then letG l x else 0) = z) := hz
  obtain ⟨h1, h2, h3⟩ := box2 w (.slice a n cap) (.int .i64 al) 26
  have HX : Hid (_ = _) := h1
  have HW : Hid (Below _ _ _) := h2
  have HR : Hid (Rd _ a l) := hr.keep h2 (Nat.le_refl _)
  have k0 := row2_cells h1
  clear hb hl hr hz h1 h2 h3
  go_enter Try.func13, Try.ntmps13
  go_wp2_with fail
  refine (guardokI a al l n cap b HL.out (by omega) HB.out _ HR.out).mono ?_
  rintro e w1 ⟨rfl, hb1⟩
  have HX1 : Hid (w1.heap[w.heap.size]? = _) := row_on HX.out hb1
  have HW1 : Hid (Below w.heap.size w w1) := bel_on (Nat.le_refl _) HW.out hb1
  have HR1 : Hid (Rd w1 a l) := HR.out.keep hb1 (Nat.le_refl _)
  have k1 := row2_cells HX1.out
  clear hb1 HX HW HR k0
  cases b
  · have HE : Hid (z = 0) := by show _ = _; rw [← HZ.out]; simp
    go_wp2
    go_ret
    exact ⟨by rw [HE.out]; rfl, HW1.out⟩
  by_cases c1 : al = 0
  case neg =>
    have HE : Hid (z = 0) := by show _ = _; rw [← HZ.out]; simp [c1]
    have q1 : (al != 0) = true := by simpa using c1
    go_wp2
    go_ret
    exact ⟨by rw [HE.out]; rfl, HW1.out⟩
  subst c1
  have HM : Hid (letG l x = z) := by have hz := HZ.out; simp only [and_self, if_true] at hz; exact hz
  have HG : Hid (GdR l 0) := HB.out.1 rfl
  clear HB HZ
  go_wp2_with fail
  refine (inRoomI a 0 l n cap x z HG.out HM.out HL.out hn _ HR1.out).mono ?_
  rintro e w2 ⟨rfl, hb2⟩
  have HW2 : Hid (Below w.heap.size w w2) := bel_on (Nat.le_refl _) HW1.out hb2
  clear hb2
  go_wp2
  go_ret
  exact ⟨rfl, HW2.out⟩
set_option maxRecDepth 100000 in
set_option maxHeartbeats 1000000 in
theorem copyGI (a : Option Addr) (al : Int) (l : List Int) (n cap : Nat) (hl : l.length = n) (hn : n ≤ 1048576) (w : World) (hr : Rd w a l) :
    Calls Try.prog 35 #[.agg #[.slice a n cap, .int .i64 al]] w fun e w' => e = .returned (.agg #[.slice (some ⟨w.heap.size + 2, 0, none⟩) n n, .int .i64 al]) ∧ OwnN w' (w.heap.size + 2) (w.heap.size + 2) n n l ∧ Below w.heap.size w w' := by
  obtain ⟨hA, hZ, hW, hS⟩ := box2b w (.slice a n cap) (.int .i64 al) (.slice none 0 0) (.int .i64 0) 26 26
  have HA : Hid (_ = _) := hA
  have HZ : Hid (_ = _) := hZ
  have HW : Hid (Below _ _ _) := hW
  have HS : Hid (_ = _) := hS
  have HR : Hid (Rd w a l) := hr
  have HL : Hid (l.length = n) := hl
  have ka := row2_cells hA
  clear hA hZ hW hS hr hl
  go_enter Try.func35, Try.ntmps35
  go_wp2_with fail
  refine (copyI a l n cap HL.out hn _ (HR.out.keep HW.out (Nat.le_refl _))).mono ?_
  rintro e w1 ⟨rfl, hrow, hb1⟩
  have HA1 : Hid (w1.heap[w.heap.size]? = _) := row_on HA.out hb1
  have HZ1 : Hid (w1.heap[w.heap.size + 1]? = _) := row_on HZ.out hb1
  have HW1 : Hid (Below w.heap.size w w1) := bel_on (Nat.le_refl _) HW.out hb1
  rw [HS.out] at hrow hb1 ⊢
  have HO1 : Hid (OwnN w1 (w.heap.size + 2) (w.heap.size + 2) n n l) := RowAt.ownN hrow (Nat.le_refl _) HL.out hn
  clear hrow hb1 HA HZ HW HS HR ka
  have k1 := row2_cells HA1.out
  go_wp2_with (refine listStoreL rfl rfl _ _ _ rfl rfl w.heap.size 0 (some ⟨w.heap.size + 2, 0, none⟩) n n rfl rfl HA1.out (by simp) ?_)
  intro w2 hput
  have HW2 : Hid (Below w.heap.size w w2) := hput.2.2.2 _ _ (Nat.le_refl _) HW1.out
  have HZ2 : Hid (w2.heap[w.heap.size + 1]? = some (.cells #[.slice none 0 0, .int .i64 0] 26)) := hput.far HZ1.out (by omega)
  have HO2 : Hid (OwnN w2 (w.heap.size + 2) (w.heap.size + 2) n n l) := hput.own HO1.out (by omega)
  have HA2 : Hid (w2.heap[w.heap.size]? = some (.cells #[.slice (some ⟨w.heap.size + 2, 0, none⟩) n n, .int .i64 al] 26)) := hput.1
  have k2 := row2_cells HA2.out
  clear hput HW1 HZ1 HO1 HA1 k1
  go_upto_region 2 with fail
  go_wp2_with (refine listStoreG rfl rfl _ _ _ rfl rfl (w.heap.size + 1) (some ⟨w.heap.size + 2, 0, none⟩) n n al rfl rfl HZ2.out ?_)
  intro w9 hput
  have HB9 : Hid (Below w.heap.size w w9) := hput.2.2.2 _ _ (Nat.le_succ _) HW2.out
  have HO9 : Hid (OwnN w9 (w.heap.size + 2) (w.heap.size + 2) n n l) := hput.own HO2.out (by omega)
  obtain ⟨z0, z1, _⟩ := row2_cells hput.1
  clear hput
  go_wp2
  refine bodyPost_ret (v := .agg #[.slice (some ⟨w.heap.size + 2, 0, none⟩) n n, .int .i64 al]) (by simp only [results, Try.results35]; simp [go_sem, z0, z1]) rfl ⟨rfl, HO9.out, HB9.out⟩
theorem or_fin : ∀ a b : Fin 16, IntKind.i64.wrap ((BitVec.ofInt 64 (a.val : Int) ||| BitVec.ofInt 64 (b.val : Int)).toNat : Int) = orI (a.val : Int) (b.val : Int) := by decide
theorem or_is {a b : Int} (ha : 0 ≤ a ∧ a ≤ 15) (hb : 0 ≤ b ∧ b ≤ 15) : IntKind.i64.wrap ((BitVec.ofInt 64 a ||| BitVec.ofInt 64 b).toNat : Int) = orI a b := by
  have h := or_fin ⟨a.toNat, by omega⟩ ⟨b.toNat, by omega⟩
  simp only [Int.toNat_of_nonneg ha.1, Int.toNat_of_nonneg hb.1] at h
  exact h
set_option maxRecDepth 100000 in
set_option maxHeartbeats 4000000 in
theorem feelI (a : Option Addr) (al : Int) (l : List Int) (n cap : Nat) (x : Int) (seen : Bool) (b : Bool) (y : Int) (hy : feelA b al x seen = y) (hl : l.length = n) (hn : n ≤ 1048576) (ha : a = none → n = 0 ∧ cap = 0) (hb : b = true ↔ GdR l al) (w : World) (hr : Rd w a l) :
    Calls Try.prog 18 #[.agg #[.slice a n cap, .int .i64 al], .int .i64 x, .bool seen] w fun e w' => ∃ g c, e = .returned (.agg #[.slice (some ⟨g, 0, none⟩) n c, .int .i64 y]) ∧ OwnN w' w.heap.size g n c l ∧ Below w.heap.size w w' := by
  have HY : Hid (feelA b al x seen = y) := hy
  clear hy
  have HL : Hid (l.length = n) := hl
  have HR : Hid (Rd w a l) := hr
  have HBo : Hid (b = true ↔ GdR l al) := hb
  obtain ⟨h1, h2, h3, h4⟩ := box2b w (.slice a n cap) (.int .i64 al) (.slice none 0 0) (.int .i64 0) 26 26
  have HP0 : Hid (_ = _) := h1
  have HZ0 : Hid (_ = _) := h2
  have HB0 : Hid (Below _ _ _) := h3
  have HS0 : Hid (_ = _) := h4
  have p0 := row2_cells HP0.out
  clear hl hr ha hb h1 h2 h3 h4
  go_enter Try.func18, Try.ntmps18
  go_wp2_with fail
  refine (copyGI a al l n cap HL.out hn _ (HR.out.keep HB0.out (Nat.le_refl _))).mono ?_
  rintro e w1 ⟨rfl, hown, hb1⟩
  have HB1 : Hid (Below w.heap.size w w1) := bel_on (Nat.le_refl _) HB0.out hb1
  have HP1 : Hid (w1.heap[w.heap.size]? = some (.cells #[.slice a n cap, .int .i64 al] 26)) := row_on HP0.out hb1
  have HZ1 : Hid (w1.heap[w.heap.size + 1]? = some (.cells #[.slice none 0 0, .int .i64 0] 26)) := row_on HZ0.out hb1
  rw [HS0.out] at hown ⊢
  obtain ⟨g, hg⟩ : ∃ g, w.heap.size + 2 + 2 = g := ⟨_, rfl⟩
  rw [hg] at hown ⊢
  have HO1 : Hid (OwnN w1 (w.heap.size + 2) g n n l) := hown.mono (by omega)
  have hg1 := HO1.out.ge
  have hg2 := HO1.out.lt
  clear hown hb1 HB0 HP0 HZ0 HS0 p0 hg
  have HQ2 : Hid ((w1.alloc (.cells #[.slice (some ⟨g, 0, none⟩) n n, .int .i64 al] 26)).heap[w1.heap.size]? = some (.cells #[.slice (some ⟨g, 0, none⟩) n n, .int .i64 al] 26)) := heap_new w1 _
  have HB2 : Hid (Below w.heap.size w (w1.alloc (.cells #[.slice (some ⟨g, 0, none⟩) n n, .int .i64 al] 26))) := bel_on (Nat.le_refl _) HB1.out (alG _ _)
  have HP2 : Hid ((w1.alloc (.cells #[.slice (some ⟨g, 0, none⟩) n n, .int .i64 al] 26)).heap[w.heap.size]? = some (.cells #[.slice a n cap, .int .i64 al] 26)) := row_on HP1.out (alG _ _)
  have HZ2 : Hid ((w1.alloc (.cells #[.slice (some ⟨g, 0, none⟩) n n, .int .i64 al] 26)).heap[w.heap.size + 1]? = some (.cells #[.slice none 0 0, .int .i64 0] 26)) := row_on HZ1.out (alG _ _)
  have HO2 : Hid (OwnN (w1.alloc (.cells #[.slice (some ⟨g, 0, none⟩) n n, .int .i64 al] 26)) (w.heap.size + 2) g n n l) := HO1.out.on (alG _ _)
  have p2 := row2_cells HP2.out
  have q2 := row2_cells HQ2.out
  have hl1 := row_lt HZ1.out
  clear HB1 HP1 HZ1 HO1
  obtain ⟨Q, hQ⟩ : ∃ Q, w1.heap.size = Q := ⟨_, rfl⟩
  go_wp2_with fail
  refine (guardokI a al l n cap b HL.out (by omega) HBo.out _ (HR.out.keep HB2.out (Nat.le_refl _))).mono ?_
  rintro e w3 ⟨rfl, hb1⟩
  rw [hQ] at HQ2 hl1 hg2
  have HB3 : Hid (Below w.heap.size w w3) := bel_on (Nat.le_refl _) HB2.out hb1
  have HP3 : Hid (w3.heap[w.heap.size]? = some (.cells #[.slice a n cap, .int .i64 al] 26)) := row_on HP2.out hb1
  have HZ3 : Hid (w3.heap[w.heap.size + 1]? = some (.cells #[.slice none 0 0, .int .i64 0] 26)) := row_on HZ2.out hb1
  have HO3 : Hid (OwnN w3 (w.heap.size + 2) g n n l) := HO2.out.on hb1
  have HQ3 : Hid (w3.heap[Q]? = some (.cells #[.slice (some ⟨g, 0, none⟩) n n, .int .i64 al] 26)) := row_on HQ2.out hb1
  have p3 := row2_cells HP3.out
  have q3 := row2_cells HQ3.out
  clear hb1 HB2 HP2 HZ2 HO2 HQ2 p2 q2 hQ
  cases b
  · obtain rfl : al = y := by rw [← HY.out]; simp [feelA]
    clear HY
    go_upto_region 3 with fail
    go_wp2_with (refine listStoreG rfl rfl _ _ _ rfl rfl (w.heap.size + 1) (some ⟨g, 0, none⟩) n n (al) rfl rfl HZ3.out ?_)
    intro w9 hput
    have HB9 : Hid (Below w.heap.size w w9) := hput.2.2.2 _ _ (Nat.le_succ _) HB3.out
    have HO9 : Hid (OwnN w9 w.heap.size g n n l) := hput.own (HO3.out.mono (by omega)) (by omega)
    obtain ⟨z0, z1, _⟩ := row2_cells hput.1
    clear hput
    go_wp2
    refine bodyPost_ret (v := .agg #[.slice (some ⟨g, 0, none⟩) n n, .int .i64 (al)]) (by simp only [results, Try.results18]; simp [go_sem, z0, z1]) rfl ⟨g, n, rfl, HO9.out, HB9.out⟩
  by_cases hx : 0 ≤ x ∧ x ≤ 15
  case neg =>
    obtain rfl : al = y := by rw [← HY.out]; simp only [feelA]; rw [if_neg (fun h => hx h.2)]
    have hd := decide_eq_false hx
    clear HY hx
    go_wp2_with fail
    refine (H.senseI x false hd _).mono ?_
    rintro e w4 ⟨rfl, hb1⟩
    have HB4 : Hid (Below w.heap.size w w4) := bel_on (Nat.le_refl _) HB3.out hb1
    have HP4 : Hid (w4.heap[w.heap.size]? = some (.cells #[.slice a n cap, .int .i64 al] 26)) := row_on HP3.out hb1
    have HZ4 : Hid (w4.heap[w.heap.size + 1]? = some (.cells #[.slice none 0 0, .int .i64 0] 26)) := row_on HZ3.out hb1
    have HO4 : Hid (OwnN w4 (w.heap.size + 2) g n n l) := HO3.out.on hb1
    have HQ4 : Hid (w4.heap[Q]? = some (.cells #[.slice (some ⟨g, 0, none⟩) n n, .int .i64 al] 26)) := row_on HQ3.out hb1
    have p4 := row2_cells HP4.out
    have q4 := row2_cells HQ4.out
    clear hb1 HB3 HP3 HZ3 HO3 HQ3 p3 q3
    go_upto_region 3 with fail
    go_wp2_with (refine listStoreG rfl rfl _ _ _ rfl rfl (w.heap.size + 1) (some ⟨g, 0, none⟩) n n (al) rfl rfl HZ4.out ?_)
    intro w9 hput
    have HB9 : Hid (Below w.heap.size w w9) := hput.2.2.2 _ _ (Nat.le_succ _) HB4.out
    have HO9 : Hid (OwnN w9 w.heap.size g n n l) := hput.own (HO4.out.mono (by omega)) (by omega)
    obtain ⟨z0, z1, _⟩ := row2_cells hput.1
    clear hput
    go_wp2
    refine bodyPost_ret (v := .agg #[.slice (some ⟨g, 0, none⟩) n n, .int .i64 (al)]) (by simp only [results, Try.results18]; simp [go_sem, z0, z1]) rfl ⟨g, n, rfl, HO9.out, HB9.out⟩
  have hd := decide_eq_true hx
  have hy := HY.out
  unfold feelA at hy
  rw [if_pos ⟨rfl, hx⟩] at hy
  obtain ⟨u, hu⟩ : ∃ u, orI al x = u := ⟨_, rfl⟩
  rw [hu] at hy
  have hor := or_is (HBo.out.1 rfl).2.1 hx
  rw [hu] at hor
  have HOR : Hid (IntKind.i64.wrap ((BitVec.ofInt 64 al ||| BitVec.ofInt 64 x).toNat : Int) = u) := hor
  clear HY hx hu hor
  go_wp2_with fail
  refine (H.senseI x true hd _).mono ?_
  rintro e w4 ⟨rfl, hb1⟩
  have HB4 : Hid (Below w.heap.size w w4) := bel_on (Nat.le_refl _) HB3.out hb1
  have HP4 : Hid (w4.heap[w.heap.size]? = some (.cells #[.slice a n cap, .int .i64 al] 26)) := row_on HP3.out hb1
  have HZ4 : Hid (w4.heap[w.heap.size + 1]? = some (.cells #[.slice none 0 0, .int .i64 0] 26)) := row_on HZ3.out hb1
  have HO4 : Hid (OwnN w4 (w.heap.size + 2) g n n l) := HO3.out.on hb1
  have HQ4 : Hid (w4.heap[Q]? = some (.cells #[.slice (some ⟨g, 0, none⟩) n n, .int .i64 al] 26)) := row_on HQ3.out hb1
  have p4 := row2_cells HP4.out
  have q4 := row2_cells HQ4.out
  clear hb1 HB3 HP3 HZ3 HO3 HQ3 p3 q3 hd
  cases seen
  · simp at hy
    subst hy
    have hor := HOR.out
    go_upto_region 6 with fail
    go_wp2_with (refine listStoreI rfl rfl _ _ _ rfl rfl Q 1 (u) rfl (by first | rfl | (simp only [Act.eval]; rw [← hor]; rfl)) HQ4.out (by simp) ?_)
    clear hor
    intro w5 hput
    have HB5 : Hid (Below w.heap.size w w5) := hput.2.2.2 _ _ (by omega) HB4.out
    have HZ5 : Hid (w5.heap[w.heap.size + 1]? = some (.cells #[.slice none 0 0, .int .i64 0] 26)) := hput.far HZ4.out (by omega)
    have HO5 : Hid (OwnN w5 (w.heap.size + 2) g n n l) := hput.own HO4.out (by omega)
    have HQ5 : Hid (w5.heap[Q]? = some (.cells #[.slice (some ⟨g, 0, none⟩) n n, .int .i64 u] 26)) := hput.1
    have q5 := row2_cells HQ5.out
    clear hput HB4 HP4 HZ4 HO4 HQ4 p4 q4
    go_upto_region 7 with fail
    go_wp2_with (refine listStoreG rfl rfl _ _ _ rfl rfl (w.heap.size + 1) (some ⟨g, 0, none⟩) n n (u) rfl rfl HZ5.out ?_)
    intro w9 hput
    have HB9 : Hid (Below w.heap.size w w9) := hput.2.2.2 _ _ (Nat.le_succ _) HB5.out
    have HO9 : Hid (OwnN w9 w.heap.size g n n l) := hput.own (HO5.out.mono (by omega)) (by omega)
    obtain ⟨z0, z1, _⟩ := row2_cells hput.1
    clear hput
    go_wp2
    refine bodyPost_ret (v := .agg #[.slice (some ⟨g, 0, none⟩) n n, .int .i64 (u)]) (by simp only [results, Try.results18]; simp [go_sem, z0, z1]) rfl ⟨g, n, rfl, HO9.out, HB9.out⟩
  · simp at hy
    subst hy
    go_upto_region 5 with fail
    go_wp2_with (refine listStoreI rfl rfl _ _ _ rfl rfl Q 1 (x) rfl rfl HQ4.out (by simp) ?_)
    intro w5 hput
    have HB5 : Hid (Below w.heap.size w w5) := hput.2.2.2 _ _ (by omega) HB4.out
    have HZ5 : Hid (w5.heap[w.heap.size + 1]? = some (.cells #[.slice none 0 0, .int .i64 0] 26)) := hput.far HZ4.out (by omega)
    have HO5 : Hid (OwnN w5 (w.heap.size + 2) g n n l) := hput.own HO4.out (by omega)
    have HQ5 : Hid (w5.heap[Q]? = some (.cells #[.slice (some ⟨g, 0, none⟩) n n, .int .i64 x] 26)) := hput.1
    have q5 := row2_cells HQ5.out
    clear hput HB4 HP4 HZ4 HO4 HQ4 p4 q4
    go_upto_region 7 with fail
    go_wp2_with (refine listStoreG rfl rfl _ _ _ rfl rfl (w.heap.size + 1) (some ⟨g, 0, none⟩) n n (x) rfl rfl HZ5.out ?_)
    intro w9 hput
    have HB9 : Hid (Below w.heap.size w w9) := hput.2.2.2 _ _ (Nat.le_succ _) HB5.out
    have HO9 : Hid (OwnN w9 w.heap.size g n n l) := hput.own (HO5.out.mono (by omega)) (by omega)
    obtain ⟨z0, z1, _⟩ := row2_cells hput.1
    clear hput
    go_wp2
    refine bodyPost_ret (v := .agg #[.slice (some ⟨g, 0, none⟩) n n, .int .i64 (x)]) (by simp only [results, Try.results18]; simp [go_sem, z0, z1]) rfl ⟨g, n, rfl, HO9.out, HB9.out⟩
end Go.Proofs.Ytgpdkodnggpkeaa
