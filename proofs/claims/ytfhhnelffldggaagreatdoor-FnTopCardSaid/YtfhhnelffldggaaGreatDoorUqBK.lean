/-
  Guards, in a namespace of their own.
-/
import Derived.Test.YtfhhnelffldggaaGreatDoorUqAT
set_option maxRecDepth 100000
set_option maxHeartbeats 16000000
namespace Go.Proofs.YtfhhnelffldggaaGreatDoor.G
open Go.RowKit Go.PlainAid
set_option linter.unusedVariables false
set_option linter.unusedSimpArgs false
theorem intoI (l m n z : Int) (hz : min (max n l) m = z) (w : World) : Calls Tryz.prog 149 #[.agg #[.int .i64 l, .int .i64 m], .int .i64 n] w fun e w' => e = .returned (.int .i64 z) ∧ Below w.heap.size w w' := by
  by_cases h1 : l ≤ n
  · by_cases h2 : n ≤ m
    · obtain rfl : n = z := by omega
      clear hz
      go_enter Tryz.func149, Tryz.ntmps149
      go_wp2
      go_ret
      exact ⟨rfl, (Below.refl _ _).alloc (Nat.le_refl _) _⟩
    · obtain rfl : m = z := by omega
      clear hz
      go_enter Tryz.func149, Tryz.ntmps149
      go_wp2
      go_ret
      exact ⟨rfl, (Below.refl _ _).alloc (Nat.le_refl _) _⟩
  · by_cases h2 : l ≤ m
    · obtain rfl : l = z := by omega
      clear hz
      go_enter Tryz.func149, Tryz.ntmps149
      go_wp2
      go_ret
      exact ⟨rfl, (Below.refl _ _).alloc (Nat.le_refl _) _⟩
    · obtain rfl : m = z := by omega
      clear hz
      go_enter Tryz.func149, Tryz.ntmps149
      go_wp2
      go_ret
      exact ⟨rfl, (Below.refl _ _).alloc (Nat.le_refl _) _⟩
theorem wrap_sub (s x : Int) : IntKind.i64.wrap (IntKind.i64.wrap s - x) = IntKind.i64.wrap (s - x) := by
  rw [IntKind.wrap_i64, IntKind.wrap_i64, IntKind.wrap_i64]
  omega
theorem wrap_sub2 (s x : Int) : IntKind.i64.wrap (s - IntKind.i64.wrap x) = IntKind.i64.wrap (s - x) := by
  rw [IntKind.wrap_i64, IntKind.wrap_i64, IntKind.wrap_i64]
  omega
theorem roomI (a : Option Addr) (al : Int) (l : List Int) (n cap : Nat) (R : Int) (hR : IntKind.i64.wrap (30 - sumW l) = R) (hl : l.length = n) (hn : n ≤ 1048576) (w : World) (hr : Rd w a l) :
    Calls Tryz.prog 116 #[.agg #[.slice a n cap, .int .i64 al]] w fun e w' => e = .returned (.int .i64 R) ∧ Below w.heap.size w w' := by
  have HB : Hid (Below w.heap.size w (w.alloc (.cells #[.slice a n cap, .int .i64 al] 32))) := alG _ _
  have HR : Hid (Rd (w.alloc (.cells #[.slice a n cap, .int .i64 al] 32)) a l) := hr.keep HB.out (Nat.le_refl _)
  have HL := hq hl
  have HE : Hid (IntKind.i64.wrap (30 - sumN l) = R) := by show _ = _; rw [← hR]; unfold sumW; exact (wrap_sub2 _ _).symm
  have k0 := row2_cells (heap_new w (.cells #[.slice a n cap, .int .i64 al] 32))
  clear hl hr hR
  go_enter Tryz.func116, Tryz.ntmps116
  go_wp2
  generalize w.alloc (.cells #[.slice a n cap, .int .i64 al] 32) = W at *
  go_loopg [3, 9] n (fun gk s i wr => ∃ (j : Nat) (S : Int), j + gk = n ∧ i = .int .i64 j ∧ s = .int .i64 S ∧ Hid (S = IntKind.i64.wrap (30 - sumN (l.take j))) ∧ wr = W)
  case atStart => exact ⟨0, 30, by omega, rfl, rfl, (by show _ = _; rw [List.take_zero]; exact (wrap_in (by simp [sumN]) (by simp [sumN])).symm), rfl⟩
  case round =>
    obtain ⟨j, S, hj, rfl, rfl, HS, rfl⟩ := hrel
    by_cases hlt : j < n
    · have hjl : j < l.length := by have := HL.out; omega
      obtain ⟨g, off, ha, hc⟩ := HR.out (by omega)
      subst ha
      have c1 := hc j hjl
      clear hc
      obtain ⟨x, hx⟩ : ∃ x, l[j] = x := ⟨_, rfl⟩
      rw [hx] at c1
      obtain ⟨T, hT⟩ : ∃ T, IntKind.i64.wrap (S - x) = T := ⟨_, rfl⟩
      have HT : Hid (T = IntKind.i64.wrap (30 - sumN (l.take (j + 1)))) := by
        show _ = _
        rw [← hT, HS.out, ← hx, sumN_take hjl, wrap_sub]
        congr 1
        omega
      clear hx HS
      go_wp2
      go_roundg (gk - 1)
      case measure => omega
      case rel => exact ⟨j + 1, T, by omega, by go_num, rfl, HT, rfl⟩
    · obtain rfl : j = n := by omega
      have HF : Hid (S = R) := by show _ = _; rw [HS.out, ← HE.out, ← HL.out, List.take_length]
      clear HS
      go_wp2
      go_ret
      exact ⟨by rw [HF.out]; rfl, HB.out⟩
theorem pulsI (a : Option Addr) (l : List Int) (n cap : Nat) (B : Bool) (hB : B = true ↔ AllG l l.length) (hl : l.length = n) (hn : n ≤ 1048576) (w : World) (hr : Rd w a l) :
    Calls Tryz.prog 115 #[.slice a n cap] w fun e w' => e = .returned (.bool B) ∧ Below w.heap.size w w' := by
  have HB := hq hB
  have HL := hq hl
  have HR := hq hr
  clear hl hr hB
  go_enter Tryz.func115, Tryz.ntmps115
  go_wp2
  go_loopg [7] n (fun gk i wr => ∃ (j : Nat), j + gk = n ∧ i = .int .i64 j ∧ Hid (AllG l j) ∧ Hid (Below w.heap.size w wr))
  case atStart => exact ⟨0, by omega, rfl, allG_zero l, Below.refl _ _⟩
  case round =>
    obtain ⟨j, hj, rfl, HI, HW⟩ := hrel
    by_cases hlt : j < n
    · have hjl : j < l.length := by have := HL.out; omega
      obtain ⟨g, off, ha, hc⟩ := HR.out (by omega)
      subst ha
      have c1 := (HW.out.cell (p := ⟨g, off + j, none⟩) (World.block_lt_of_cell? w ⟨g, off + j, none⟩ (hc j hjl))).trans (hc j hjl)
      clear hc
      obtain ⟨x, hx⟩ : ∃ x, l[j] = x := ⟨_, rfl⟩
      rw [hx] at c1
      have HF := hq hx
      clear hx
      by_cases hf : 0 ≤ x ∧ x ≤ 30
      · have hd : decide ((0 : Int) ≤ x ∧ x ≤ 30) = true := decide_eq_true hf
        have HI' : Hid (AllG l (j + 1)) := allG_succ HI.out hjl (by rw [HF.out]; exact hf)
        clear hf HI
        go_wp2_with fail
        refine (H.holdsI 0 30 x true hd _).mono ?_
        rintro e w1 ⟨rfl, hb1⟩
        have HW1 := bq HW hb1
        clear hd hb1
        go_wp2
        go_roundg (gk - 1)
        case measure => omega
        case rel => exact ⟨j + 1, by omega, by go_num, HI', HW1⟩
      · have hd : decide ((0 : Int) ≤ x ∧ x ≤ 30) = false := decide_eq_false hf
        have HE : Hid (B = false) := by
          show _ = _
          cases B
          · rfl
          · exact absurd (by have := HB.out.1 rfl j hjl hjl; rw [HF.out] at this; exact this) hf
        clear hf HI
        go_wp2_with fail
        refine (H.holdsI 0 30 x false hd _).mono ?_
        rintro e w1 ⟨rfl, hb1⟩
        have HW1 := bq HW hb1
        clear hd hb1
        go_wp2
        go_ret
        exact ⟨by rw [HE.out]; rfl, HW1.out⟩
    · have HE : Hid (B = true) := HB.out.2 (fun i h _ => HI.out i h (by have := HL.out; omega))
      clear HI
      go_wp2
      go_ret
      exact ⟨by rw [HE.out]; rfl, HW.out⟩
theorem puls_bool (l : List Int) : ∃ b : Bool, b = true ↔ AllG l l.length := by
  by_cases h : AllG l l.length
  · exact ⟨true, fun _ => h, fun _ => rfl⟩
  · exact ⟨false, fun e => (by cases e), fun e => absurd e h⟩
theorem guardokI (a : Option Addr) (al : Int) (l : List Int) (n cap : Nat) (b : Bool) (hl : l.length = n) (hn : n ≤ 9223372036854775807) (hb : b = true ↔ GdR l al) (w : World) (hr : Rd w a l) :
    Calls Tryz.prog 59 #[.agg #[.slice a n cap, .int .i64 al]] w fun e w' => e = .returned (.bool b) ∧ Below w.heap.size w w' := by
  have HB := hq hb
  have HL := hq hl
  obtain ⟨h1, h2, h3⟩ := box2 w (.slice a n cap) (.int .i64 al) 32
  have HX := hq h1
  have HW := hq h2
  have HR : Hid (Rd _ a l) := hr.keep h2 (Nat.le_refl _)
  have k0 := row2_cells h1
  clear hb hl hr h1 h2 h3
  by_cases hal : 0 ≤ al ∧ al ≤ 15
  case neg =>
    have HE : Hid (b = false) := not_gd HB.out (fun h => hal h.2.1)
    have hd : decide ((0 : Int) ≤ al ∧ al ≤ 15) = false := decide_eq_false hal
    go_enter Tryz.func59, Tryz.ntmps59
    go_wp2_with fail
    refine (H.senseI al false hd _).mono ?_
    rintro e w1 ⟨rfl, hb1⟩
    have HW1 := bq HW hb1
    clear hb1
    go_wp2
    go_ret
    exact ⟨by rw [HE.out]; rfl, HW1.out⟩
  have HAL := hq hal
  have hd : decide ((0 : Int) ≤ al ∧ al ≤ 15) = true := decide_eq_true hal
  clear hal
  go_enter Tryz.func59, Tryz.ntmps59
  go_wp2_with fail
  refine (H.senseI al true hd _).mono ?_
  rintro e w1 ⟨rfl, hb1⟩
  have HX1 := hq (row_on HX.out hb1)
  have HW1 := bq HW hb1
  have HR1 := hq (HR.out.keep hb1 (Nat.le_refl _))
  have k1 := row2_cells HX1.out
  clear hb1 hd HX HW HR k0
  by_cases h9 : n ≤ 9
  case neg =>
    have HE : Hid (b = false) := not_gd HB.out (fun h => by have := h.1; have := HL.out; omega)
    have h9' : ¬ (n : Int) ≤ 9 := by omega
    go_wp2
    go_ret
    exact ⟨by rw [HE.out]; rfl, HW1.out⟩
  have h9' : (n : Int) ≤ 9 := by omega
  obtain ⟨B, hB⟩ := puls_bool l
  have HP := hq hB
  clear hB
  go_wp2_with fail
  refine (pulsI a l n cap B HP.out HL.out (by omega) _ HR1.out).mono ?_
  rintro e w2 ⟨rfl, hb1⟩
  have HX2 := hq (row_on HX1.out hb1)
  have HW2 := bq HW1 hb1
  have HR2 := hq (HR1.out.keep hb1 (Nat.le_refl _))
  have k2 := row2_cells HX2.out
  clear hb1 HX1 HW1 HR1 k1
  cases B
  · have HE : Hid (b = false) := not_gd HB.out (fun h => by have := HP.out.2 (fun i hi _ => h.2.2.1 i hi); cases this)
    go_wp2
    go_ret
    exact ⟨by rw [HE.out]; rfl, HW2.out⟩
  have HS : Hid (sumW l = sumN l) := sumW_in (fun i h => HP.out.1 rfl i h h) (by have := HL.out; omega)
  have hbd := sumN_bd (l := l) (fun i h => HP.out.1 rfl i h h)
  have hlen := HL.out
  obtain ⟨R, hR⟩ : ∃ R, 30 - sumN l = R := ⟨_, rfl⟩
  have HRM : Hid (IntKind.i64.wrap (30 - sumW l) = R) := by show _ = _; rw [HS.out, hR]; exact wrap_in (by omega) (by omega)
  have HE : Hid (b = decide (0 ≤ R)) := by
    show _ = _
    have h0 : 0 ≤ R ↔ sumN l ≤ 30 := by omega
    by_cases h : 0 ≤ R
    · rw [decide_eq_true h]; exact HB.out.2 ⟨by omega, HAL.out, fun i hi => HP.out.1 rfl i hi hi, h0.1 h⟩
    · rw [decide_eq_false h]; exact not_gd HB.out (fun x => h (h0.2 x.2.2.2))
  clear hbd hlen hR
  go_wp2_with fail
  refine (roomI a al l n cap R HRM.out HL.out (by omega) _ HR2.out).mono ?_
  rintro e w3 ⟨rfl, hb1⟩
  have HW3 := bq HW2 hb1
  clear hb1
  go_wp2
  go_ret
  exact ⟨by rw [HE.out]; rfl, HW3.out⟩
theorem inRoomI (a : Option Addr) (al : Int) (l : List Int) (n cap : Nat) (x z : Int) (hG : GdR l al) (hz : letG l x = z) (hl : l.length = n) (hn : n ≤ 1048576) (w : World) (hr : Rd w a l) :
    Calls Tryz.prog 132 #[.agg #[.slice a n cap, .int .i64 al], .int .i64 x] w fun e w' => e = .returned (.int .i64 z) ∧ Below w.heap.size w w' := by
  have HL := hq hl
  obtain ⟨h1, h2, h3⟩ := box2 w (.slice a n cap) (.int .i64 al) 32
  have HX := hq h1
  have HW := hq h2
  have HR : Hid (Rd _ a l) := hr.keep h2 (Nat.le_refl _)
  have k0 := row2_cells h1
  have hrm := room_bd hG
  obtain ⟨R, hR⟩ : ∃ R, 30 - sumN l = R := ⟨_, rfl⟩
  unfold letG at hz
  rw [hR] at hrm hz
  have HRM : Hid (IntKind.i64.wrap (30 - sumW l) = R) := hrm.1
  have HM : Hid (min (max x 0) R = z) := by show _ = _; omega
  clear hl hr h1 h2 h3 hrm hR hz hG
  go_enter Tryz.func132, Tryz.ntmps132
  go_wp2_with fail
  refine (roomI a al l n cap R HRM.out HL.out hn _ HR.out).mono ?_
  rintro e w1 ⟨rfl, hb1⟩
  have HW1 := bq HW hb1
  clear hb1
  go_wp2_with fail
  refine (intoI 0 R x z HM.out _).mono ?_
  rintro e w2 ⟨rfl, hb1⟩
  have HW2 := bq HW1 hb1
  clear hb1
  go_wp2
  go_ret
  exact ⟨rfl, HW2.out⟩
theorem allowI (a : Option Addr) (al : Int) (l : List Int) (n cap : Nat) (x : Int) (b : Bool) (z : Int) (hl : l.length = n) (hn : n ≤ 1048576) (hb : b = true ↔ GdR l al) (hz : (if b = true ∧ al = 0 then letG l x else 0) = z) (w : World) (hr : Rd w a l) :
    Calls Tryz.prog 82 #[.agg #[.slice a n cap, .int .i64 al], .int .i64 x] w fun e w' => e = .returned (.int .i64 z) ∧ Below w.heap.size w w' := by
  have HB := hq hb
  have HL := hq hl
  have HZ := hq hz
  obtain ⟨h1, h2, h3⟩ := box2 w (.slice a n cap) (.int .i64 al) 32
  have HX := hq h1
  have HW := hq h2
  have HR : Hid (Rd _ a l) := hr.keep h2 (Nat.le_refl _)
  have k0 := row2_cells h1
  clear hb hl hr hz h1 h2 h3
  go_enter Tryz.func82, Tryz.ntmps82
  go_wp2_with fail
  refine (guardokI a al l n cap b HL.out (by omega) HB.out _ HR.out).mono ?_
  rintro e w1 ⟨rfl, hb1⟩
  have HX1 := hq (row_on HX.out hb1)
  have HW1 := bq HW hb1
  have HR1 := hq (HR.out.keep hb1 (Nat.le_refl _))
  have k1 := row2_cells HX1.out
  clear hb1 HX HW HR k0
  cases b
  · have HE : Hid (z = 0) := by show _ = _; rw [← HZ.out]; simp
    go_wp2
    go_ret
    exact ⟨by rw [HE.out]; rfl, HW1.out⟩
  by_cases c1 : al = 0
  case neg =>
    have HE : Hid (z = 0) := by show _ = _; rw [← HZ.out]; simp [c1]
    have q1 : (al != 0) = true := by simpa using c1
    go_wp2
    go_ret
    exact ⟨by rw [HE.out]; rfl, HW1.out⟩
  subst c1
  have HM : Hid (letG l x = z) := by have hz := HZ.out; simp only [and_self, if_true] at hz; exact hz
  have HG : Hid (GdR l 0) := HB.out.1 rfl
  clear HB HZ
  go_wp2_with fail
  refine (inRoomI a 0 l n cap x z HG.out HM.out HL.out hn _ HR1.out).mono ?_
  rintro e w2 ⟨rfl, hb2⟩
  have HW2 := bq HW1 hb2
  clear hb2
  go_wp2
  go_ret
  exact ⟨rfl, HW2.out⟩
theorem copyGI (a : Option Addr) (al : Int) (l : List Int) (n cap : Nat) (hl : l.length = n) (hn : n ≤ 1048576) (w : World) (hr : Rd w a l) :
    Calls Tryz.prog 76 #[.agg #[.slice a n cap, .int .i64 al]] w fun e w' => e = .returned (.agg #[.slice (some ⟨w.heap.size + 2, 0, none⟩) n n, .int .i64 al]) ∧ OwnN w' (w.heap.size + 2) (w.heap.size + 2) n n l ∧ Below w.heap.size w w' := by
  obtain ⟨hA, hZ, hW, hS⟩ := box2b w (.slice a n cap) (.int .i64 al) (.slice none 0 0) (.int .i64 0) 32 32
  have HA := hq hA
  have HZ := hq hZ
  have HW := hq hW
  have HS := hq hS
  have HR := hq hr
  have HL := hq hl
  have ka := row2_cells hA
  clear hA hZ hW hS hr hl
  go_enter Tryz.func76, Tryz.ntmps76
  go_wp2_with fail
  refine (copyI a l n cap HL.out hn _ (HR.out.keep HW.out (Nat.le_refl _))).mono ?_
  rintro e w1 ⟨rfl, hrow, hb1⟩
  have HA1 := hq (row_on HA.out hb1)
  have HZ1 := hq (row_on HZ.out hb1)
  have HW1 := bq HW hb1
  rw [HS.out] at hrow hb1 ⊢
  have HO1 : Hid (OwnN w1 (w.heap.size + 2) (w.heap.size + 2) n n l) := RowAt.ownN hrow (Nat.le_refl _) HL.out hn
  clear hrow hb1 HA HZ HW HS HR ka
  have k1 := row2_cells HA1.out
  go_wp2_with (refine listStoreL rfl rfl _ _ _ rfl rfl w.heap.size 0 (some ⟨w.heap.size + 2, 0, none⟩) n n rfl rfl HA1.out (by simp) ?_)
  intro w2 hput
  have HW2 := hq (hput.2.2.2 _ _ (Nat.le_refl _) HW1.out)
  have HZ2 := hq (hput.far HZ1.out (by omega))
  have HO2 : Hid (OwnN w2 (w.heap.size + 2) (w.heap.size + 2) n n l) := hput.own HO1.out (by omega)
  have HA2 := hq hput.1
  have k2 := row2_cells HA2.out
  clear hput HW1 HZ1 HO1 HA1 k1
  go_upto_region 2 with fail
  go_wp2_with (refine listStoreG rfl rfl _ _ _ rfl rfl (w.heap.size + 1) (some ⟨w.heap.size + 2, 0, none⟩) n n al rfl rfl HZ2.out ?_)
  intro w9 hput
  have HB9 := hq (hput.2.2.2 _ _ (Nat.le_succ _) HW2.out)
  have HO9 : Hid (OwnN w9 (w.heap.size + 2) (w.heap.size + 2) n n l) := hput.own HO2.out (by omega)
  obtain ⟨z0, z1, _⟩ := row2_cells hput.1
  clear hput
  go_wp2
  refine bodyPost_ret (v := .agg #[.slice (some ⟨w.heap.size + 2, 0, none⟩) n n, .int .i64 al]) (by simp only [results, Tryz.results76]; simp [go_sem, z0, z1]) rfl ⟨rfl, HO9.out, HB9.out⟩
theorem or_fin : ∀ a b : Fin 16, IntKind.i64.wrap ((BitVec.ofInt 64 (a.val : Int) ||| BitVec.ofInt 64 (b.val : Int)).toNat : Int) = orI (a.val : Int) (b.val : Int) := by decide
theorem or_is {a b : Int} (ha : 0 ≤ a ∧ a ≤ 15) (hb : 0 ≤ b ∧ b ≤ 15) : IntKind.i64.wrap ((BitVec.ofInt 64 a ||| BitVec.ofInt 64 b).toNat : Int) = orI a b := by
  have h := or_fin ⟨a.toNat, by omega⟩ ⟨b.toNat, by omega⟩
  simp only [Int.toNat_of_nonneg ha.1, Int.toNat_of_nonneg hb.1] at h
  exact h
theorem feelI (a : Option Addr) (al : Int) (l : List Int) (n cap : Nat) (x : Int) (seen : Bool) (b : Bool) (y : Int) (hy : feelA b al x seen = y) (hl : l.length = n) (hn : n ≤ 1048576) (ha : a = none → n = 0 ∧ cap = 0) (hb : b = true ↔ GdR l al) (w : World) (hr : Rd w a l) :
    Calls Tryz.prog 81 #[.agg #[.slice a n cap, .int .i64 al], .int .i64 x, .bool seen] w fun e w' => ∃ g c, e = .returned (.agg #[.slice (some ⟨g, 0, none⟩) n c, .int .i64 y]) ∧ OwnN w' w.heap.size g n c l ∧ Below w.heap.size w w' := by
  have HY := hq hy
  clear hy
  have HL := hq hl
  have HR := hq hr
  have HBo := hq hb
  obtain ⟨h1, h2, h3, h4⟩ := box2b w (.slice a n cap) (.int .i64 al) (.slice none 0 0) (.int .i64 0) 32 32
  have HP0 := hq h1
  have HZ0 := hq h2
  have HB0 := hq h3
  have HS0 := hq h4
  have p0 := row2_cells HP0.out
  clear hl hr ha hb h1 h2 h3 h4
  go_enter Tryz.func81, Tryz.ntmps81
  go_wp2_with fail
  refine (copyGI a al l n cap HL.out hn _ (HR.out.keep HB0.out (Nat.le_refl _))).mono ?_
  rintro e w1 ⟨rfl, hown, hb1⟩
  have HB1 := bq HB0 hb1
  have HP1 := rq HP0 hb1
  have HZ1 := rq HZ0 hb1
  rw [HS0.out] at hown ⊢
  obtain ⟨g, hg⟩ : ∃ g, w.heap.size + 2 + 2 = g := ⟨_, rfl⟩
  rw [hg] at hown ⊢
  have HO1 : Hid (OwnN w1 (w.heap.size + 2) g n n l) := hown.mono (by omega)
  have hg1 := HO1.out.ge
  have hg2 := HO1.out.lt
  clear hown hb1 HB0 HP0 HZ0 HS0 p0 hg
  have HQ2 : Hid ((w1.alloc (.cells #[.slice (some ⟨g, 0, none⟩) n n, .int .i64 al] 32)).heap[w1.heap.size]? = some (.cells #[.slice (some ⟨g, 0, none⟩) n n, .int .i64 al] 32)) := heap_new w1 _
  have HB2 : Hid (Below w.heap.size w (w1.alloc (.cells #[.slice (some ⟨g, 0, none⟩) n n, .int .i64 al] 32))) := bel_on (Nat.le_refl _) HB1.out (alG _ _)
  have HP2 : Hid ((w1.alloc (.cells #[.slice (some ⟨g, 0, none⟩) n n, .int .i64 al] 32)).heap[w.heap.size]? = some (.cells #[.slice a n cap, .int .i64 al] 32)) := row_on HP1.out (alG _ _)
  have HZ2 : Hid ((w1.alloc (.cells #[.slice (some ⟨g, 0, none⟩) n n, .int .i64 al] 32)).heap[w.heap.size + 1]? = some (.cells #[.slice none 0 0, .int .i64 0] 32)) := row_on HZ1.out (alG _ _)
  have HO2 : Hid (OwnN (w1.alloc (.cells #[.slice (some ⟨g, 0, none⟩) n n, .int .i64 al] 32)) (w.heap.size + 2) g n n l) := HO1.out.on (alG _ _)
  have p2 := row2_cells HP2.out
  have q2 := row2_cells HQ2.out
  have hl1 := row_lt HZ1.out
  clear HB1 HP1 HZ1 HO1
  obtain ⟨Q, hQ⟩ : ∃ Q, w1.heap.size = Q := ⟨_, rfl⟩
  go_wp2_with fail
  refine (guardokI a al l n cap b HL.out (by omega) HBo.out _ (HR.out.keep HB2.out (Nat.le_refl _))).mono ?_
  rintro e w3 ⟨rfl, hb1⟩
  rw [hQ] at HQ2 hl1 hg2
  have HB3 := bq HB2 hb1
  have HP3 := rq HP2 hb1
  have HZ3 := rq HZ2 hb1
  have HO3 := hq (HO2.out.on hb1)
  have HQ3 := rq HQ2 hb1
  have p3 := row2_cells HP3.out
  have q3 := row2_cells HQ3.out
  clear hb1 HB2 HP2 HZ2 HO2 HQ2 p2 q2 hQ
  cases b
  · obtain rfl : al = y := by rw [← HY.out]; simp [feelA]
    clear HY
    go_upto_region 3 with fail
    go_wp2_with (refine listStoreG rfl rfl _ _ _ rfl rfl (w.heap.size + 1) (some ⟨g, 0, none⟩) n n (al) rfl rfl HZ3.out ?_)
    intro w9 hput
    have HB9 := hq (hput.2.2.2 _ _ (Nat.le_succ _) HB3.out)
    have HO9 : Hid (OwnN w9 w.heap.size g n n l) := hput.own (HO3.out.mono (by omega)) (by omega)
    obtain ⟨z0, z1, _⟩ := row2_cells hput.1
    clear hput
    go_wp2
    refine bodyPost_ret (v := .agg #[.slice (some ⟨g, 0, none⟩) n n, .int .i64 (al)]) (by simp only [results, Tryz.results81]; simp [go_sem, z0, z1]) rfl ⟨g, n, rfl, HO9.out, HB9.out⟩
  by_cases hx : 0 ≤ x ∧ x ≤ 15
  case neg =>
    obtain rfl : al = y := by rw [← HY.out]; simp only [feelA]; rw [if_neg (fun h => hx h.2)]
    have hd := decide_eq_false hx
    clear HY hx
    go_wp2_with fail
    refine (H.senseI x false hd _).mono ?_
    rintro e w4 ⟨rfl, hb1⟩
    have HB4 := bq HB3 hb1
    have HP4 := rq HP3 hb1
    have HZ4 := rq HZ3 hb1
    have HO4 := hq (HO3.out.on hb1)
    have HQ4 := rq HQ3 hb1
    have p4 := row2_cells HP4.out
    have q4 := row2_cells HQ4.out
    clear hb1 HB3 HP3 HZ3 HO3 HQ3 p3 q3
    go_upto_region 3 with fail
    go_wp2_with (refine listStoreG rfl rfl _ _ _ rfl rfl (w.heap.size + 1) (some ⟨g, 0, none⟩) n n (al) rfl rfl HZ4.out ?_)
    intro w9 hput
    have HB9 := hq (hput.2.2.2 _ _ (Nat.le_succ _) HB4.out)
    have HO9 : Hid (OwnN w9 w.heap.size g n n l) := hput.own (HO4.out.mono (by omega)) (by omega)
    obtain ⟨z0, z1, _⟩ := row2_cells hput.1
    clear hput
    go_wp2
    refine bodyPost_ret (v := .agg #[.slice (some ⟨g, 0, none⟩) n n, .int .i64 (al)]) (by simp only [results, Tryz.results81]; simp [go_sem, z0, z1]) rfl ⟨g, n, rfl, HO9.out, HB9.out⟩
  have hd := decide_eq_true hx
  have hy := HY.out
  unfold feelA at hy
  rw [if_pos ⟨rfl, hx⟩] at hy
  obtain ⟨u, hu⟩ : ∃ u, orI al x = u := ⟨_, rfl⟩
  rw [hu] at hy
  have hor := or_is (HBo.out.1 rfl).2.1 hx
  rw [hu] at hor
  have HOR := hq hor
  clear HY hx hu hor
  go_wp2_with fail
  refine (H.senseI x true hd _).mono ?_
  rintro e w4 ⟨rfl, hb1⟩
  have HB4 := bq HB3 hb1
  have HP4 := rq HP3 hb1
  have HZ4 := rq HZ3 hb1
  have HO4 := hq (HO3.out.on hb1)
  have HQ4 := rq HQ3 hb1
  have p4 := row2_cells HP4.out
  have q4 := row2_cells HQ4.out
  clear hb1 HB3 HP3 HZ3 HO3 HQ3 p3 q3 hd
  cases seen
  · simp at hy
    subst hy
    have hor := HOR.out
    go_upto_region 6 with fail
    go_wp2_with (refine listStoreI rfl rfl _ _ _ rfl rfl Q 1 (u) rfl (by first | rfl | (simp only [Act.eval]; rw [← hor]; rfl)) HQ4.out (by simp) ?_)
    clear hor
    intro w5 hput
    have HB5 := hq (hput.2.2.2 _ _ (by omega) HB4.out)
    have HZ5 := hq (hput.far HZ4.out (by omega))
    have HO5 : Hid (OwnN w5 (w.heap.size + 2) g n n l) := hput.own HO4.out (by omega)
    have HQ5 := hq hput.1
    have q5 := row2_cells HQ5.out
    clear hput HB4 HP4 HZ4 HO4 HQ4 p4 q4
    go_upto_region 7 with fail
    go_wp2_with (refine listStoreG rfl rfl _ _ _ rfl rfl (w.heap.size + 1) (some ⟨g, 0, none⟩) n n (u) rfl rfl HZ5.out ?_)
    intro w9 hput
    have HB9 := hq (hput.2.2.2 _ _ (Nat.le_succ _) HB5.out)
    have HO9 : Hid (OwnN w9 w.heap.size g n n l) := hput.own (HO5.out.mono (by omega)) (by omega)
    obtain ⟨z0, z1, _⟩ := row2_cells hput.1
    clear hput
    go_wp2
    refine bodyPost_ret (v := .agg #[.slice (some ⟨g, 0, none⟩) n n, .int .i64 (u)]) (by simp only [results, Tryz.results81]; simp [go_sem, z0, z1]) rfl ⟨g, n, rfl, HO9.out, HB9.out⟩
  · simp at hy
    subst hy
    go_upto_region 5 with fail
    go_wp2_with (refine listStoreI rfl rfl _ _ _ rfl rfl Q 1 (x) rfl rfl HQ4.out (by simp) ?_)
    intro w5 hput
    have HB5 := hq (hput.2.2.2 _ _ (by omega) HB4.out)
    have HZ5 := hq (hput.far HZ4.out (by omega))
    have HO5 : Hid (OwnN w5 (w.heap.size + 2) g n n l) := hput.own HO4.out (by omega)
    have HQ5 := hq hput.1
    have q5 := row2_cells HQ5.out
    clear hput HB4 HP4 HZ4 HO4 HQ4 p4 q4
    go_upto_region 7 with fail
    go_wp2_with (refine listStoreG rfl rfl _ _ _ rfl rfl (w.heap.size + 1) (some ⟨g, 0, none⟩) n n (x) rfl rfl HZ5.out ?_)
    intro w9 hput
    have HB9 := hq (hput.2.2.2 _ _ (Nat.le_succ _) HB5.out)
    have HO9 : Hid (OwnN w9 w.heap.size g n n l) := hput.own (HO5.out.mono (by omega)) (by omega)
    obtain ⟨z0, z1, _⟩ := row2_cells hput.1
    clear hput
    go_wp2
    refine bodyPost_ret (v := .agg #[.slice (some ⟨g, 0, none⟩) n n, .int .i64 (x)]) (by simp only [results, Tryz.results81]; simp [go_sem, z0, z1]) rfl ⟨g, n, rfl, HO9.out, HB9.out⟩
def putA (A : Nat → Int) (k : Nat) (v : Int) : Nat → Int := fun i => if i = k then v else A i
def Ring (l : List Int) (A : Nat → Int) (N M : Nat) : Prop := N < 9 ∧ l.length = M ∧ M ≤ 9 ∧ ∀ i (h : i < l.length), A ((N + 9 - (i + 1)) % 9) = l[i]
theorem ring_nil : Ring [] (fun _ => 0) 0 0 := ⟨by omega, rfl, by omega, fun i h => by simp at h⟩
theorem ring_put {l : List Int} {A : Nat → Int} {N M : Nat} (h : Ring l A N M) (v : Int) : Ring ((v :: l).take 9) (putA A N v) ((N + 1) % 9) (min (M + 1) 9) := by
  obtain ⟨h1, h2, h3, h4⟩ := h
  refine ⟨by omega, by simp; omega, by omega, fun i hi => ?_⟩
  have hi9 : i < 9 := by simp at hi; omega
  have hil : i < l.length + 1 := by simp at hi; omega
  rw [List.getElem_take]
  unfold putA
  cases i with
  | zero => rw [if_pos (by omega)]; rfl
  | succ i =>
    rw [if_neg (by omega), List.getElem_cons_succ, ← h4 i (by omega)]
    congr 1
    omega
theorem row11_cells {w : World} {k : Nat} {t : TypeId} {u0 u1 u2 u3 u4 u5 u6 u7 u8 u9 u10 : Value} (h : w.heap[k]? = some (.cells #[u0, u1, u2, u3, u4, u5, u6, u7, u8, u9, u10] t)) :
    w.cell? ⟨k, 0, none⟩ = some u0 ∧ w.cell? ⟨k, 1, none⟩ = some u1 ∧ w.cell? ⟨k, 2, none⟩ = some u2 ∧ w.cell? ⟨k, 3, none⟩ = some u3 ∧ w.cell? ⟨k, 4, none⟩ = some u4 ∧ w.cell? ⟨k, 5, none⟩ = some u5 ∧ w.cell? ⟨k, 6, none⟩ = some u6 ∧ w.cell? ⟨k, 7, none⟩ = some u7 ∧ w.cell? ⟨k, 8, none⟩ = some u8 ∧ w.cell? ⟨k, 9, none⟩ = some u9 ∧ w.cell? ⟨k, 10, none⟩ = some u10 ∧ w.frozen? ⟨k, 0, none⟩ = false ∧ w.frozen? ⟨k, 1, none⟩ = false ∧ w.frozen? ⟨k, 2, none⟩ = false ∧ w.frozen? ⟨k, 3, none⟩ = false ∧ w.frozen? ⟨k, 4, none⟩ = false ∧ w.frozen? ⟨k, 5, none⟩ = false ∧ w.frozen? ⟨k, 6, none⟩ = false ∧ w.frozen? ⟨k, 7, none⟩ = false ∧ w.frozen? ⟨k, 8, none⟩ = false ∧ w.frozen? ⟨k, 9, none⟩ = false ∧ w.frozen? ⟨k, 10, none⟩ = false := by
  refine ⟨?_, ?_, ?_, ?_, ?_, ?_, ?_, ?_, ?_, ?_, ?_, ?_, ?_, ?_, ?_, ?_, ?_, ?_, ?_, ?_, ?_, ?_⟩ <;> simp [World.cell?, World.frozen?, h]
theorem listStoreT {ops : Array Oper} {rest : List Oper} {o : Oper} {a : Act} {Q : Exit → Act → World → Prop} {w : World} (hgd : o.guard = none) (hd : o.dst = none) (x y : Operand) (ty : TypeId) (ho : o.op = .store ty x y) (hty : ty = 168)
    (g : Nat) (z0 z1 z2 z3 z4 z5 z6 z7 z8 z9 z10 : Int) (hx : a.eval x = .pointer (some ⟨g, 0, none⟩)) (hy : a.eval y = .agg #[.int .i64 z0, .int .i64 z1, .int .i64 z2, .int .i64 z3, .int .i64 z4, .int .i64 z5, .int .i64 z6, .int .i64 z7, .int .i64 z8, .int .i64 z9, .int .i64 z10])
    {u0 u1 u2 u3 u4 u5 u6 u7 u8 u9 u10 : Value} (hg : w.heap[g]? = some (.cells #[u0, u1, u2, u3, u4, u5, u6, u7, u8, u9, u10] 168))
    (h : ∀ w' : World, PutG w w' g (.cells #[.int .i64 z0, .int .i64 z1, .int .i64 z2, .int .i64 z3, .int .i64 z4, .int .i64 z5, .int .i64 z6, .int .i64 z7, .int .i64 z8, .int .i64 z9, .int .i64 z10] 168) → wpList Tryz.prog ops Q rest a w') : wpList Tryz.prog ops Q (o :: rest) a w := by
  subst hty
  refine wpList_store_rowTo hgd _ x y ho hd g _ hx hy _ _ hg (by kernel_rfl) rfl (by kernel_rfl) ?_
  refine h _ ⟨setRow_heap w g _ _ _ _ hg, fun k hk => setRow_other w g k _ hk, setRow_size w g _, fun B W hB hb => ?_⟩
  exact ⟨hb.os, hb.tape, hb.output, by rw [setRow_size]; exact hb.size, fun k hk => by rw [setRow_other w g k _ (by omega)]; exact hb.block k hk⟩
theorem row_put (A : Nat → Int) (N M : Int) (k : Nat) (hk : k < 9) (v : Int) : (#[.int .i64 (A 0), .int .i64 (A 1), .int .i64 (A 2), .int .i64 (A 3), .int .i64 (A 4), .int .i64 (A 5), .int .i64 (A 6), .int .i64 (A 7), .int .i64 (A 8), .int .i64 N, .int .i64 M] : Array Value).setIfInBounds k (.int .i64 v) = #[.int .i64 ((putA A k v) 0), .int .i64 ((putA A k v) 1), .int .i64 ((putA A k v) 2), .int .i64 ((putA A k v) 3), .int .i64 ((putA A k v) 4), .int .i64 ((putA A k v) 5), .int .i64 ((putA A k v) 6), .int .i64 ((putA A k v) 7), .int .i64 ((putA A k v) 8), .int .i64 N, .int .i64 M] := by
  have : k = 0 ∨ k = 1 ∨ k = 2 ∨ k = 3 ∨ k = 4 ∨ k = 5 ∨ k = 6 ∨ k = 7 ∨ k = 8 := by omega
  rcases this with rfl | rfl | rfl | rfl | rfl | rfl | rfl | rfl | rfl <;> rfl
theorem row_at {w : World} {g : Nat} {A : Nat → Int} {N M : Int} {t : TypeId} (h : w.heap[g]? = some (.cells #[.int .i64 (A 0), .int .i64 (A 1), .int .i64 (A 2), .int .i64 (A 3), .int .i64 (A 4), .int .i64 (A 5), .int .i64 (A 6), .int .i64 (A 7), .int .i64 (A 8), .int .i64 N, .int .i64 M] t)) (k : Nat) (hk : k < 9) : w.cell? ⟨g, k, none⟩ = some (.int .i64 (A k)) := by
  have : k = 0 ∨ k = 1 ∨ k = 2 ∨ k = 3 ∨ k = 4 ∨ k = 5 ∨ k = 6 ∨ k = 7 ∨ k = 8 := by omega
  rcases this with rfl | rfl | rfl | rfl | rfl | rfl | rfl | rfl | rfl <;> simp [World.cell?, h]
theorem box11b (w : World) (o p : Obj) :
    ((w.alloc o).alloc p).heap[w.heap.size]? = some o ∧ ((w.alloc o).alloc p).heap[w.heap.size + 1]? = some p ∧ Below w.heap.size w ((w.alloc o).alloc p) ∧ ((w.alloc o).alloc p).heap.size = w.heap.size + 2 := by
  have h0 := heap_new w o
  have h1 := heap_new (w.alloc o) p
  refine ⟨(Below.heap_alloc _ _ _ (by simp)).trans h0, by simpa using h1, ((Below.refl _ _).alloc (Nat.le_refl _) _).alloc (by simp) _, by simp⟩
theorem withI (A : Nat → Int) (N M : Nat) (v : Int) (hN : N < 9) (hM : M ≤ 9) (w : World) :
    Calls Tryz.prog 144 #[.agg #[.int .i64 (A 0), .int .i64 (A 1), .int .i64 (A 2), .int .i64 (A 3), .int .i64 (A 4), .int .i64 (A 5), .int .i64 (A 6), .int .i64 (A 7), .int .i64 (A 8), .int .i64 (N : Int), .int .i64 (M : Int)], .int .i64 v] w fun e w' => e = .returned (.agg #[.int .i64 ((putA A N v) 0), .int .i64 ((putA A N v) 1), .int .i64 ((putA A N v) 2), .int .i64 ((putA A N v) 3), .int .i64 ((putA A N v) 4), .int .i64 ((putA A N v) 5), .int .i64 ((putA A N v) 6), .int .i64 ((putA A N v) 7), .int .i64 ((putA A N v) 8), .int .i64 (((N + 1) % 9 : Nat) : Int), .int .i64 ((min (M + 1) 9 : Nat) : Int)]) ∧ Below w.heap.size w w' := by
  obtain ⟨h1, h2, h3, h4⟩ := box11b w (.cells #[.int .i64 (A 0), .int .i64 (A 1), .int .i64 (A 2), .int .i64 (A 3), .int .i64 (A 4), .int .i64 (A 5), .int .i64 (A 6), .int .i64 (A 7), .int .i64 (A 8), .int .i64 (N : Int), .int .i64 (M : Int)] 168) (.cells #[.int .i64 0, .int .i64 0, .int .i64 0, .int .i64 0, .int .i64 0, .int .i64 0, .int .i64 0, .int .i64 0, .int .i64 0, .int .i64 0, .int .i64 0] 168)
  have HP0 := hq h1
  have HZ0 := hq h2
  have HB0 := hq h3
  have p0 := row11_cells h1
  clear h1 h2 h3 h4
  have n0 : (0 : Int) ≤ N := by omega
  have n9 : (N : Int) < 9 := by omega
  obtain ⟨A', hA'⟩ : ∃ A', putA A N v = A' := ⟨_, rfl⟩
  obtain ⟨N', hN'⟩ : ∃ N', (N + 1) % 9 = N' := ⟨_, rfl⟩
  obtain ⟨M', hM'⟩ : ∃ M', min (M + 1) 9 = M' := ⟨_, rfl⟩
  rw [hA', hN', hM']
  have q1 : IntKind.i64.wrap ((N : Int) + 1) = (N : Int) + 1 := wrap_in (by omega) (by omega)
  have q2 : ((N : Int) + 1).tmod 9 = (N' : Int) := by rw [Int.tmod_eq_emod_of_nonneg (by omega)]; omega
  have q3 : IntKind.i64.wrap ((M : Int) + 1) = (M : Int) + 1 := wrap_in (by omega) (by omega)
  go_enter Tryz.func144, Tryz.ntmps144
  go_upto_region 1 with fail
  go_wp2_with (refine listStoreI rfl rfl _ _ _ rfl rfl w.heap.size N v rfl rfl HP0.out (by simp; omega) ?_)
  intro w1 hput
  have HB1 := hq (hput.2.2.2 _ _ (Nat.le_refl _) HB0.out)
  have HZ1 := hq (hput.far HZ0.out (by omega))
  have HP1 : Hid (w1.heap[w.heap.size]? = some (.cells #[.int .i64 (A' 0), .int .i64 (A' 1), .int .i64 (A' 2), .int .i64 (A' 3), .int .i64 (A' 4), .int .i64 (A' 5), .int .i64 (A' 6), .int .i64 (A' 7), .int .i64 (A' 8), .int .i64 (N : Int), .int .i64 (M : Int)] 168)) := by have h := hput.1; rw [row_put A N M N hN v, hA'] at h; exact h
  have p1 := row11_cells HP1.out
  clear hput HB0 HZ0 HP0 p0
  go_upto_region 2 with fail
  go_wp2_with (refine listStoreI rfl rfl _ _ _ rfl rfl w.heap.size 9 N' rfl rfl HP1.out (by simp) ?_)
  intro w2 hput
  have HB2 := hq (hput.2.2.2 _ _ (Nat.le_refl _) HB1.out)
  have HZ2 := hq (hput.far HZ1.out (by omega))
  have HP2 := hq hput.1
  have p2 := row11_cells HP2.out
  clear hput HB1 HZ1 HP1 p1
  go_upto_region 3 with fail
  by_cases h9 : M < 9
  · obtain rfl : M + 1 = M' := by omega
    have h9' : (M : Int) + 1 ≤ 9 := by omega
    have h9'' : ¬ (9 : Int) < (M : Int) + 1 := by omega
    go_wp2_with (refine listStoreI rfl rfl _ _ _ rfl rfl w.heap.size 10 ((M : Int) + 1) rfl rfl HP2.out (by simp) ?_)
    intro w3 hput
    have HB3 := hq (hput.2.2.2 _ _ (Nat.le_refl _) HB2.out)
    have HZ3 := hq (hput.far HZ2.out (by omega))
    have HP3 := hq hput.1
    have p3 := row11_cells HP3.out
    clear hput HB2 HZ2 HP2 p2
    go_upto_region 4 with fail
    go_wp2_with (refine listStoreT rfl rfl _ _ _ rfl rfl (w.heap.size + 1) (A' 0) (A' 1) (A' 2) (A' 3) (A' 4) (A' 5) (A' 6) (A' 7) (A' 8) N' ((M : Int) + 1) rfl rfl HZ3.out ?_)
    intro w4 hput
    have HB4 := hq (hput.2.2.2 _ _ (Nat.le_succ _) HB3.out)
    have z := row11_cells hput.1
    clear hput
    go_wp2
    refine bodyPost_ret (v := .agg #[.int .i64 (A' 0), .int .i64 (A' 1), .int .i64 (A' 2), .int .i64 (A' 3), .int .i64 (A' 4), .int .i64 (A' 5), .int .i64 (A' 6), .int .i64 (A' 7), .int .i64 (A' 8), .int .i64 N', .int .i64 ((M : Int) + 1)]) (by simp only [results, Tryz.results144]; simp [go_sem, z]) rfl ⟨rfl, HB4.out⟩
  · obtain rfl : M = 9 := by omega
    obtain rfl : 9 = M' := by omega
    go_wp2_with (refine listStoreI rfl rfl _ _ _ rfl rfl w.heap.size 10 9 rfl rfl HP2.out (by simp) ?_)
    intro w3 hput
    have HB3 := hq (hput.2.2.2 _ _ (Nat.le_refl _) HB2.out)
    have HZ3 := hq (hput.far HZ2.out (by omega))
    have HP3 := hq hput.1
    have p3 := row11_cells HP3.out
    clear hput HB2 HZ2 HP2 p2
    go_upto_region 4 with fail
    go_wp2_with (refine listStoreT rfl rfl _ _ _ rfl rfl (w.heap.size + 1) (A' 0) (A' 1) (A' 2) (A' 3) (A' 4) (A' 5) (A' 6) (A' 7) (A' 8) N' 9 rfl rfl HZ3.out ?_)
    intro w4 hput
    have HB4 := hq (hput.2.2.2 _ _ (Nat.le_succ _) HB3.out)
    have z := row11_cells hput.1
    clear hput
    go_wp2
    refine bodyPost_ret (v := .agg #[.int .i64 (A' 0), .int .i64 (A' 1), .int .i64 (A' 2), .int .i64 (A' 3), .int .i64 (A' 4), .int .i64 (A' 5), .int .i64 (A' 6), .int .i64 (A' 7), .int .i64 (A' 8), .int .i64 N', .int .i64 9]) (by simp only [results, Tryz.results144]; simp [go_sem, z]) rfl ⟨rfl, HB4.out⟩
theorem agoI (A : Nat → Int) (N M t : Nat) (x : Int) (hN : N < 9) (ht : 1 ≤ t ∧ t ≤ 9) (hx : A ((N + 9 - t) % 9) = x) (w : World) :
    Calls Tryz.prog 176 #[.agg #[.int .i64 (A 0), .int .i64 (A 1), .int .i64 (A 2), .int .i64 (A 3), .int .i64 (A 4), .int .i64 (A 5), .int .i64 (A 6), .int .i64 (A 7), .int .i64 (A 8), .int .i64 (N : Int), .int .i64 (M : Int)], .int .i64 t] w fun e w' => e = .returned (.int .i64 x) ∧ Below w.heap.size w w' := by
  have HP : Hid ((w.alloc (.cells #[.int .i64 (A 0), .int .i64 (A 1), .int .i64 (A 2), .int .i64 (A 3), .int .i64 (A 4), .int .i64 (A 5), .int .i64 (A 6), .int .i64 (A 7), .int .i64 (A 8), .int .i64 (N : Int), .int .i64 (M : Int)] 168)).heap[w.heap.size]? = some (.cells #[.int .i64 (A 0), .int .i64 (A 1), .int .i64 (A 2), .int .i64 (A 3), .int .i64 (A 4), .int .i64 (A 5), .int .i64 (A 6), .int .i64 (A 7), .int .i64 (A 8), .int .i64 (N : Int), .int .i64 (M : Int)] 168)) := heap_new w _
  have HB : Hid (Below w.heap.size w (w.alloc (.cells #[.int .i64 (A 0), .int .i64 (A 1), .int .i64 (A 2), .int .i64 (A 3), .int .i64 (A 4), .int .i64 (A 5), .int .i64 (A 6), .int .i64 (A 7), .int .i64 (A 8), .int .i64 (N : Int), .int .i64 (M : Int)] 168))) := alG _ _
  obtain ⟨k, hk⟩ : ∃ k, (N + 9 - t) % 9 = k := ⟨_, rfl⟩
  have hk9 : k < 9 := by omega
  rw [hk] at hx
  have p := row11_cells HP.out
  have c := row_at HP.out k hk9
  rw [hx] at c
  have q1 : IntKind.i64.wrap ((N : Int) + 9) = (N : Int) + 9 := wrap_in (by omega) (by omega)
  have q2 : IntKind.i64.wrap ((N : Int) + 9 - t) = (N : Int) + 9 - t := wrap_in (by omega) (by omega)
  have q3 : ((N : Int) + 9 - t).tmod 9 = (k : Int) := by rw [Int.tmod_eq_emod_of_nonneg (by omega)]; omega
  have k0 : (0 : Int) ≤ k := by omega
  have k9 : (k : Int) < 9 := by omega
  clear hx HP hk
  go_enter Tryz.func176, Tryz.ntmps176
  go_wp2
  go_ret
  exact ⟨rfl, HB.out⟩
theorem intsV_put (l : List Int) (j : Nat) (x : Int) : (intsV l).toArray.setIfInBounds j (.int .i64 x) = (intsV (l.set j x)).toArray := by
  simp [intsV, List.map_set]
theorem listI (l : List Int) (A : Nat → Int) (N M : Nat) (hG : Ring l A N M) (w : World) :
    Calls Tryz.prog 145 #[.agg #[.int .i64 (A 0), .int .i64 (A 1), .int .i64 (A 2), .int .i64 (A 3), .int .i64 (A 4), .int .i64 (A 5), .int .i64 (A 6), .int .i64 (A 7), .int .i64 (A 8), .int .i64 (N : Int), .int .i64 (M : Int)]] w fun e w' => e = .returned (.slice (some ⟨w.heap.size + 1, 0, none⟩) M M) ∧ RowAt w' (w.heap.size + 1) l ∧ Below w.heap.size w w' := by
  obtain ⟨h1, h2, h3, h4⟩ := box11b w (.cells #[.int .i64 (A 0), .int .i64 (A 1), .int .i64 (A 2), .int .i64 (A 3), .int .i64 (A 4), .int .i64 (A 5), .int .i64 (A 6), .int .i64 (A 7), .int .i64 (A 8), .int .i64 (N : Int), .int .i64 (M : Int)] 168) (.cells (intsV (List.replicate M 0)).toArray 3)
  have HG := hq hG
  have HL : Hid (l.length = M) := hG.2.1
  have hM := hG.2.2.1
  have hN := hG.1
  have HP0 := hq h1
  have HR0 : Hid (RowAt ((w.alloc (.cells #[.int .i64 (A 0), .int .i64 (A 1), .int .i64 (A 2), .int .i64 (A 3), .int .i64 (A 4), .int .i64 (A 5), .int .i64 (A 6), .int .i64 (A 7), .int .i64 (A 8), .int .i64 (N : Int), .int .i64 (M : Int)] 168)).alloc (.cells (intsV (List.replicate M 0)).toArray 3)) (w.heap.size + 1) (upto l M 0)) := by show RowAt _ _ _; rw [upto_zero]; exact h2
  have HB0 := hq h3
  have HS0 : Hid ((w.alloc (.cells #[.int .i64 (A 0), .int .i64 (A 1), .int .i64 (A 2), .int .i64 (A 3), .int .i64 (A 4), .int .i64 (A 5), .int .i64 (A 6), .int .i64 (A 7), .int .i64 (A 8), .int .i64 (N : Int), .int .i64 (M : Int)] 168)).heap.size = w.heap.size + 1) := by show _ = _; simp
  have p0 := row11_cells (heap_new w (.cells #[.int .i64 (A 0), .int .i64 (A 1), .int .i64 (A 2), .int .i64 (A 3), .int .i64 (A 4), .int .i64 (A 5), .int .i64 (A 6), .int .i64 (A 7), .int .i64 (A 8), .int .i64 (N : Int), .int .i64 (M : Int)] 168))
  have hmk := run_make_row' (P := Tryz.prog) 30 3 (.int .i64 0) 8 Tryz.underlying30 info3 rfl .i64 .i64 M (by omega) (by omega)
  rw [made_ints] at hmk
  clear h1 h2 h3 h4 hG
  have hm0 : (0 : Int) ≤ M := by omega
  go_enter Tryz.func145, Tryz.ntmps145
  go_wp2
  go_loopg [10] M (fun gk i wr => ∃ j : Nat, j + gk = M ∧ i = .int .i64 j ∧ Hid (RowAt wr (w.heap.size + 1) (upto l M j)) ∧ Hid (wr.heap[w.heap.size]? = some (.cells #[.int .i64 (A 0), .int .i64 (A 1), .int .i64 (A 2), .int .i64 (A 3), .int .i64 (A 4), .int .i64 (A 5), .int .i64 (A 6), .int .i64 (A 7), .int .i64 (A 8), .int .i64 (N : Int), .int .i64 (M : Int)] 168)) ∧ Hid (Below w.heap.size w wr))
  case atStart => exact ⟨0, by omega, rfl, HR0, HP0, HB0⟩
  case round =>
    clear HR0 HP0 HB0 HS0 p0 hmk
    obtain ⟨j, hj, rfl, HR, HP, HB⟩ := hrel
    have p := row11_cells HP.out
    by_cases hlt : j < M
    · have hjl : j < l.length := by have := HL.out; omega
      obtain ⟨x, hx⟩ : ∃ x, l[j] = x := ⟨_, rfl⟩
      have HX : Hid (A ((N + 9 - (j + 1)) % 9) = x) := by show _ = _; rw [HG.out.2.2.2 j hjl]; exact hx
      have q1 : IntKind.i64.wrap ((j : Int) + 1) = ((j + 1 : Nat) : Int) := by rw [wrap_in (by omega) (by omega)]; omega
      have HU : Hid ((upto l M j).set j x = upto l M (j + 1)) := by show _ = _; rw [← hx]; exact upto_set HL.out hlt hjl
      have hul : (upto l M j).length = M := upto_len HL.out (by omega)
      have j0 : (0 : Int) ≤ j := by omega
      have jM : (j : Int) < M := by omega
      clear hx
      go_wp2_with fail
      refine (agoI A N M (j + 1) x hN (by omega) HX.out _).mono ?_
      rintro e w1 ⟨rfl, hb1⟩
      have HR1 := rq HR hb1
      have HP1 := rq HP hb1
      have HB1 := bq HB hb1
      clear hb1 HR HP HB p
      go_wp2_with (refine listStoreI rfl rfl _ _ _ rfl rfl (w.heap.size + 1) j x rfl rfl HR1.out (by simp [intsV, hul]; omega) ?_)
      intro w2 hput
      have HR2 : Hid (RowAt w2 (w.heap.size + 1) (upto l M (j + 1))) := by have h := hput.1; rw [intsV_put, HU.out] at h; exact h
      have HP2 := hq (hput.far HP1.out (by omega))
      have HB2 := hq (hput.2.2.2 _ _ (Nat.le_succ _) HB1.out)
      clear hput HR1 HP1 HB1 HU HX
      go_wp2
      go_roundg (gk - 1)
      case measure => omega
      case rel => exact ⟨j + 1, by omega, by go_num, HR2, HP2, HB2⟩
    · obtain rfl : j = M := by omega
      have HE : Hid (RowAt wr (w.heap.size + 1) l) := by have h := HR.out; rw [upto_all HL.out] at h; exact h
      clear HR
      go_wp2
      go_ret
      exact ⟨rfl, HE.out, HB.out⟩
theorem storeT_any {ops : Array Oper} {o : Oper} {a : Act} {K : Act → World → Prop} {Q : Exit → Act → World → Prop} {E : Prop} {w : World} (hw : Region.wanted o (yielded ops a.tmps) = true) (hd : o.dst = none) (x y : Operand) (ty : TypeId) (ho : o.op = .store ty x y) (hty : ty = 168)
    (g : Nat) (z0 z1 z2 z3 z4 z5 z6 z7 z8 z9 z10 : Int) (hx : a.eval x = .pointer (some ⟨g, 0, none⟩)) (hy : a.eval y = .agg #[.int .i64 z0, .int .i64 z1, .int .i64 z2, .int .i64 z3, .int .i64 z4, .int .i64 z5, .int .i64 z6, .int .i64 z7, .int .i64 z8, .int .i64 z9, .int .i64 z10])
    {u0 u1 u2 u3 u4 u5 u6 u7 u8 u9 u10 : Value} (hg : w.heap[g]? = some (.cells #[u0, u1, u2, u3, u4, u5, u6, u7, u8, u9, u10] 168))
    (h : ∀ w' : World, PutG w w' g (.cells #[.int .i64 z0, .int .i64 z1, .int .i64 z2, .int .i64 z3, .int .i64 z4, .int .i64 z5, .int .i64 z6, .int .i64 z7, .int .i64 z8, .int .i64 z9, .int .i64 z10] 168) → K a w') : if Region.wanted o (yielded ops a.tmps) = true then Oper.wp Tryz.prog o a w K Q else E := by
  subst hty
  rw [if_pos hw]
  refine wp_store_row _ x y ho g _ hx hy _ _ hg (by kernel_rfl) rfl (by kernel_rfl) ?_
  rw [hd]
  refine h _ ⟨setRow_heap w g _ _ _ _ hg, fun k hk => setRow_other w g k _ hk, setRow_size w g _, fun B W hB hb => ?_⟩
  exact ⟨hb.os, hb.tape, hb.output, by rw [setRow_size]; exact hb.size, fun k hk => by rw [setRow_other w g k _ (by omega)]; exact hb.block k hk⟩
theorem drop_take {l : List Int} {j n : Nat} (hl : l.length = n) (hn : n ≤ 9) (hj : j < n) (hk : n - 1 - j < l.length) : (l[n - 1 - j] :: l.drop (n - j)).take 9 = l.drop (n - (j + 1)) := by
  have h1 : n - (j + 1) = n - 1 - j := by omega
  have h2 : n - j = n - 1 - j + 1 := by omega
  rw [h1, h2, ← List.drop_eq_getElem_cons hk]
  exact List.take_of_length_le (by simp; omega)
theorem pastI (a : Option Addr) (l : List Int) (n cap : Nat) (hl : l.length = n) (hn : n ≤ 9) (w : World) (hr : Rd w a l) :
    Calls Tryz.prog 143 #[.slice a n cap] w fun e w' => ∃ (A : Nat → Int) (N M : Nat), e = .returned (.agg #[.int .i64 (A 0), .int .i64 (A 1), .int .i64 (A 2), .int .i64 (A 3), .int .i64 (A 4), .int .i64 (A 5), .int .i64 (A 6), .int .i64 (A 7), .int .i64 (A 8), .int .i64 (N : Int), .int .i64 (M : Int)]) ∧ Ring l A N M ∧ Below w.heap.size w w' := by
  obtain ⟨h1, h2, h3, h4⟩ := box11b w (.cells #[.int .i64 0, .int .i64 0, .int .i64 0, .int .i64 0, .int .i64 0, .int .i64 0, .int .i64 0, .int .i64 0, .int .i64 0, .int .i64 0, .int .i64 0] 168) (.cells #[.int .i64 0, .int .i64 0, .int .i64 0, .int .i64 0, .int .i64 0, .int .i64 0, .int .i64 0, .int .i64 0, .int .i64 0, .int .i64 0, .int .i64 0] 168)
  have HZ0 := hq h1
  have HP0 := hq h2
  have HB0 := hq h3
  have HL := hq hl
  have HR := hq hr
  have HG0 : Hid (Ring (l.drop (n - 0)) (fun _ => 0) 0 0) := by
    show Ring _ _ _ _
    rw [List.drop_of_length_le (by omega)]
    exact ring_nil
  clear h1 h2 h3 h4 hl hr
  go_enter Tryz.func143, Tryz.ntmps143
  go_wp2
  go_loopg [7] n (fun gk i wr => ∃ (j : Nat) (A : Nat → Int) (N M : Nat), j + gk = n ∧ i = .int .i64 j ∧ Hid (Ring (l.drop (n - j)) A N M) ∧ Hid (wr.heap[w.heap.size]? = some (.cells #[.int .i64 0, .int .i64 0, .int .i64 0, .int .i64 0, .int .i64 0, .int .i64 0, .int .i64 0, .int .i64 0, .int .i64 0, .int .i64 0, .int .i64 0] 168)) ∧ Hid (wr.heap[w.heap.size + 1]? = some (.cells #[.int .i64 (A 0), .int .i64 (A 1), .int .i64 (A 2), .int .i64 (A 3), .int .i64 (A 4), .int .i64 (A 5), .int .i64 (A 6), .int .i64 (A 7), .int .i64 (A 8), .int .i64 (N : Int), .int .i64 (M : Int)] 168)) ∧ Hid (Below w.heap.size w wr))
  case atStart => exact ⟨0, fun _ => 0, 0, 0, by omega, rfl, HG0, HZ0, HP0, HB0⟩
  case round =>
    clear HG0 HZ0 HP0 HB0
    obtain ⟨j, A, N, M, hj, rfl, HG, HZ, HP, HB⟩ := hrel
    by_cases hlt : j < n
    · obtain ⟨k, hk⟩ : ∃ k, n - 1 - j = k := ⟨_, rfl⟩
      have hkl : n - 1 - j < l.length := by have := HL.out; omega
      obtain ⟨b, off, ha, hc⟩ := HR.out (by omega)
      subst ha
      have hcc := hc _ hkl
      obtain ⟨x, hx⟩ : ∃ x, l[n - 1 - j] = x := ⟨_, rfl⟩
      have HD : Hid ((x :: l.drop (n - j)).take 9 = l.drop (n - (j + 1))) := by show _ = _; rw [← hx]; exact drop_take HL.out hn hlt hkl
      rw [hx, hk] at hcc
      have HC := hq hcc
      have c1 : wr.cell? ⟨b, off + k, none⟩ = some (.int .i64 x) := (HB.out.cell (p := ⟨b, off + k, none⟩) (World.block_lt_of_cell? w ⟨b, off + k, none⟩ hcc)).trans hcc
      have q1 : IntKind.i64.wrap ((n : Int) - 1) = (n : Int) - 1 := wrap_in (by omega) (by omega)
      have q2 : IntKind.i64.wrap ((n : Int) - 1 - j) = (k : Int) := by rw [wrap_in (by omega) (by omega)]; omega
      have k0 : (0 : Int) ≤ k := by omega
      have kn : (k : Int) < n := by omega
      have kn' : k < n := by omega
      clear hc hcc hx hkl
      go_upto_region 5 with fail
      refine wp_region_held_drew (S := fun w' => w'.cell? ⟨b, off + k, none⟩ = some (.int .i64 x) ∧ Below w.heap.size w w') (by kernel_rfl) ⟨c1, HB.out.drew⟩ (fun hHeld => ?_)
      refine tkQ 1 ?_ rfl ?_ ?_
      rotate_left
      · intro w_ hSw; (try dsimp only at hSw); go_simp <;> with_reducible rfl
      try simp only [Act.put, sQ]
      refine tkQ 2 ?_ rfl ?_ ?_
      rotate_left
      · intro w_ hSw; (try dsimp only at hSw); go_simp <;> with_reducible rfl
      try simp only [Act.put, sQ]
      refine tkQ 3 ?_ rfl ?_ ?_
      rotate_left
      · intro w_ hSw; (try dsimp only at hSw); go_simp <;> with_reducible rfl
      try simp only [Act.put, sQ]
      refine tkQ 4 ?_ rfl ?_ ?_
      rotate_left
      · intro w_ hSw; (try dsimp only at hSw); go_simp <;> with_reducible rfl
      try simp only [Act.put, sQ]
      refine tkQ 5 ?_ rfl ?_ ?_
      rotate_left
      · intro w_ hSw; (try dsimp only at hSw); go_simp <;> with_reducible rfl
      try simp only [Act.put, sQ]
      refine tkQ 6 ?_ rfl ?_ ?_
      rotate_left
      · intro w_ hSw; (try dsimp only at hSw); go_simp <;> with_reducible rfl
      try simp only [Act.put, sQ]
      refine tkQ 7 ?_ rfl ?_ ?_
      rotate_left
      · intro w_ hSw; (try dsimp only at hSw); go_simp <;> with_reducible rfl
      try simp only [Act.put, sQ]
      refine tkQ 8 ?_ rfl ?_ ?_
      rotate_left
      · intro w_ hSw; (try dsimp only at hSw); go_simp <;> with_reducible rfl
      try simp only [Act.put, sQ]
      refine wpAnyH_ready (rs := [0]) (by kernel_rfl) (by simp) ?_
      refine AllReadyH.cons rfl (fun J hJ => ?_) AllReadyH.nil
      have p := row11_cells (w := wr.drew) HP.out
      go_simp
      refine hJ.out _ _ ⟨c1, HB.out.drew⟩ (fun hHeld1 => ?_)
      clear hJ J p
      try simp only [Act.put, sQ]
      refine wpAnyH_ready (rs := [9]) (by kernel_rfl) (by simp) ?_
      refine AllReadyH.cons rfl (fun J hJ => ?_) AllReadyH.nil
      go_simp
      go_at_call 144
      refine (withI A N M x HG.out.1 HG.out.2.2.1 _).mono ?_
      rintro e v1 ⟨rfl, hbc⟩
      have HB1 : Hid (Below w.heap.size w v1) := bel_on (Nat.le_refl _) HB.out.drew hbc
      have HP1 : Hid (v1.heap[w.heap.size + 1]? = some (.cells #[.int .i64 (A 0), .int .i64 (A 1), .int .i64 (A 2), .int .i64 (A 3), .int .i64 (A 4), .int .i64 (A 5), .int .i64 (A 6), .int .i64 (A 7), .int .i64 (A 8), .int .i64 (N : Int), .int .i64 (M : Int)] 168)) := row_on (w := wr.drew) HP.out hbc
      have HZ1 : Hid (v1.heap[w.heap.size]? = some (.cells #[.int .i64 0, .int .i64 0, .int .i64 0, .int .i64 0, .int .i64 0, .int .i64 0, .int .i64 0, .int .i64 0, .int .i64 0, .int .i64 0, .int .i64 0] 168)) := row_on (w := wr.drew) HZ.out hbc
      have HC1 : Hid (v1.cell? ⟨b, off + k, none⟩ = some (.int .i64 x)) := (HB1.out.cell (p := ⟨b, off + k, none⟩) (World.block_lt_of_cell? w ⟨b, off + k, none⟩ HC.out)).trans HC.out
      obtain ⟨A', hA'⟩ : ∃ A', putA A N x = A' := ⟨_, rfl⟩
      obtain ⟨N', hN'⟩ : ∃ N', (N + 1) % 9 = N' := ⟨_, rfl⟩
      obtain ⟨M', hM'⟩ : ∃ M', min (M + 1) 9 = M' := ⟨_, rfl⟩
      have HG' : Hid (Ring (l.drop (n - (j + 1))) A' N' M') := by
        have h := ring_put HG.out x
        rw [hA', hN', hM', HD.out] at h
        exact h
      rw [hA', hN', hM']
      clear hbc HB HP HZ HG c1
      go_wp2_with fail
      refine hJ.out _ _ ⟨HC1.out, HB1.out⟩ (fun hHeld2 => ?_)
      clear hJ J hHeld hHeld1
      try simp only [Act.put, sQ]
      refine wpAnyH_ready (rs := [10]) (by kernel_rfl) (by simp) ?_
      refine AllReadyH.cons rfl (fun J hJ => ?_) AllReadyH.nil
      refine storeT_any rfl rfl _ _ _ rfl rfl (w.heap.size + 1) (A' 0) (A' 1) (A' 2) (A' 3) (A' 4) (A' 5) (A' 6) (A' 7) (A' 8) N' M' rfl rfl HP1.out ?_
      intro w2 hput
      have HB2 := hq (hput.2.2.2 _ _ (Nat.le_succ _) HB1.out)
      have HP2 := hq hput.1
      have HZ2 := hq (hput.far HZ1.out (by omega))
      have HC2 : Hid (w2.cell? ⟨b, off + k, none⟩ = some (.int .i64 x)) := (HB2.out.cell (p := ⟨b, off + k, none⟩) (World.block_lt_of_cell? w ⟨b, off + k, none⟩ HC.out)).trans HC.out
      clear hput HB1 HP1 HZ1 HC1
      refine hJ.out _ _ ⟨HC2.out, HB2.out⟩ (fun hHeld3 => ?_)
      clear hJ J hHeld2
      try simp only [Act.put, sQ]
      refine wpAnyH_done (by kernel_rfl) ?_ _
      clear hHeld3 HC2 HC
      go_wp2
      go_roundg (gk - 1)
      case measure => omega
      case rel => exact ⟨j + 1, A', N', M', by omega, by go_num, HG', HZ2, HP2, HB2⟩
    · obtain rfl : j = n := by omega
      have HE : Hid (Ring l A N M) := by have h := HG.out; rw [Nat.sub_self, List.drop_zero] at h; exact h
      have p := row11_cells HP.out
      clear HG
      go_upto_region 7 with fail
      go_wp2_with (refine listStoreT rfl rfl _ _ _ rfl rfl w.heap.size (A 0) (A 1) (A 2) (A 3) (A 4) (A 5) (A 6) (A 7) (A 8) N M rfl rfl HZ.out ?_)
      intro w2 hput
      have HB2 := hq (hput.2.2.2 _ _ (Nat.le_refl _) HB.out)
      have z := row11_cells hput.1
      clear hput
      go_wp2
      refine bodyPost_ret (v := .agg #[.int .i64 (A 0), .int .i64 (A 1), .int .i64 (A 2), .int .i64 (A 3), .int .i64 (A 4), .int .i64 (A 5), .int .i64 (A 6), .int .i64 (A 7), .int .i64 (A 8), .int .i64 (N : Int), .int .i64 (M : Int)]) (by simp only [results, Tryz.results143]; simp [go_sem, z]) rfl ⟨A, N, M, rfl, HE.out, HB2.out⟩
def KP2 (w w' : World) (p z : Obj) : Prop := w'.heap[w.heap.size]? = some p ∧ w'.heap[w.heap.size + 1]? = some z ∧ Below w.heap.size w w'
theorem KP2.on {w w' w2 : World} {p z : Obj} (h : KP2 w w' p z) (hb : Below w'.heap.size w' w2) : KP2 w w2 p z := ⟨row_on h.1 hb, row_on h.2.1 hb, bel_on (Nat.le_refl _) h.2.2 hb⟩
theorem kp_conj {w w' : World} {x y : Value} {T : TypeId} {z : Obj} (h : KP2 w w' (.cells #[x, y] T) z) : w'.cell? ⟨w.heap.size, 0, none⟩ = some x ∧ w'.cell? ⟨w.heap.size, 1, none⟩ = some y ∧ Below w.heap.size w w' := by
  refine ⟨?_, ?_, h.2.2⟩ <;> simp [World.cell?, h.1]
theorem passI (a : Option Addr) (al : Int) (l : List Int) (n cap : Nat) (x : Int) (b : Bool) (Y : List Int) (m : Nat) (hY : passL b l x = Y) (hm : Y.length = m) (hl : l.length = n) (hn : n ≤ 1048576) (ha : a = none → n = 0 ∧ cap = 0) (hb : b = true ↔ GdR l al) (w : World) (hr : Rd w a l) :
    Calls Tryz.prog 84 #[.agg #[.slice a n cap, .int .i64 al], .int .i64 x] w fun e w' => ∃ g c, e = .returned (.agg #[.slice (some ⟨g, 0, none⟩) m c, .int .i64 al]) ∧ OwnN w' w.heap.size g m c Y ∧ Below w.heap.size w w' := by
  have HY := hq hY
  have HM0 := hq hm
  have HL := hq hl
  have HR := hq hr
  have HBo := hq hb
  obtain ⟨h1, h2, h3, h4⟩ := box2b w (.slice a n cap) (.int .i64 al) (.slice none 0 0) (.int .i64 0) 32 32
  have HP0 := hq h1
  have HZ0 := hq h2
  have HB0 := hq h3
  have p0 := row2_cells HP0.out
  clear hY hm hl hr ha hb h1 h2 h3 h4
  go_enter Tryz.func84, Tryz.ntmps84
  go_wp2_with fail
  refine (guardokI a al l n cap b HL.out (by omega) HBo.out _ (HR.out.keep HB0.out (Nat.le_refl _))).mono ?_
  rintro e w1 ⟨rfl, hb1⟩
  have HB1 := bq HB0 hb1
  have HP1 := rq HP0 hb1
  have HZ1 := rq HZ0 hb1
  have p1 := row2_cells HP1.out
  clear hb1 HB0 HP0 HZ0 p0
  cases b
  · obtain rfl : l = Y := by rw [← HY.out]; simp [passL]
    obtain rfl : n = m := by rw [← HL.out]; exact HM0.out
    clear HY HM0
    go_wp2_with fail
    refine (copyGI a al l n cap HL.out hn _ (HR.out.keep HB1.out (Nat.le_refl _))).mono ?_
    rintro e w2 ⟨rfl, hown, hb1⟩
    have HB2 := bq HB1 hb1
    have HZ2 := rq HZ1 hb1
    have hz1 := row_lt HZ1.out
    obtain ⟨g, hg⟩ : ∃ g, w1.heap.size + 2 = g := ⟨_, rfl⟩
    rw [hg] at hown ⊢
    have HO2 : Hid (OwnN w2 (w.heap.size + 2) g n n l) := hown.mono (by omega)
    have hg2 := HO2.out.ge
    clear hown hb1 HB1 HP1 HZ1 p1 hg hz1
    go_wp2_with (refine listStoreG rfl rfl _ _ _ rfl rfl (w.heap.size + 1) (some ⟨g, 0, none⟩) n n al rfl rfl HZ2.out ?_)
    intro w9 hput
    have HB9 := hq (hput.2.2.2 _ _ (Nat.le_succ _) HB2.out)
    have HO9 : Hid (OwnN w9 w.heap.size g n n l) := hput.own (HO2.out.mono (by omega)) (by omega)
    obtain ⟨z0, z1, _⟩ := row2_cells hput.1
    clear hput
    go_wp2
    refine bodyPost_ret (v := .agg #[.slice (some ⟨g, 0, none⟩) n n, .int .i64 al]) (by simp only [results, Tryz.results84]; simp [go_sem, z0, z1]) rfl ⟨g, n, rfl, HO9.out, HB9.out⟩
  have HGR : Hid (GdR l al) := HBo.out.1 rfl
  obtain ⟨v, hv⟩ : ∃ v, letG l x = v := ⟨_, rfl⟩
  have HV := hq hv
  have HYv : Hid ((v :: l).take 9 = Y) := by show _ = _; rw [← HY.out, ← hv]; simp [passL]
  have hn9 : n ≤ 9 := by have := HGR.out.1; have := HL.out; omega
  have HK0 : Hid (KP2 w w1.drew (.cells #[.slice a n cap, .int .i64 al] 32) (.cells #[.slice none 0 0, .int .i64 0] 32)) := ⟨HP1.out, HZ1.out, HB1.out.drew⟩
  clear hv HY HBo
  go_upto_region 3 with fail
  clear p1 HP1 HZ1 HB1
  refine wp_region_held_drew (S := fun w' => w'.cell? ⟨w.heap.size, 0, none⟩ = some (.slice a n cap) ∧ w'.cell? ⟨w.heap.size, 1, none⟩ = some (.int .i64 al) ∧ Below w.heap.size w w') (by kernel_rfl) (kp_conj HK0.out) (fun hHeld => ?_)
  refine tkQ 0 ?_ rfl ?_ ?_
  rotate_left
  · intro w_ hSw; (try dsimp only at hSw); go_simp <;> with_reducible rfl
  try simp only [Act.put, sQ]
  refine tkQ 1 ?_ rfl ?_ ?_
  rotate_left
  · intro w_ hSw; (try dsimp only at hSw); go_simp <;> with_reducible rfl
  try simp only [Act.put, sQ]
  refine tkQ 3 ?_ rfl ?_ ?_
  rotate_left
  · intro w_ hSw; (try dsimp only at hSw); go_simp <;> with_reducible rfl
  try simp only [Act.put, sQ]
  refine tkQ 4 ?_ rfl ?_ ?_
  rotate_left
  · intro w_ hSw; (try dsimp only at hSw); go_simp <;> with_reducible rfl
  try simp only [Act.put, sQ]
  refine tkQ 8 ?_ rfl ?_ ?_
  rotate_left
  · intro w_ hSw; (try dsimp only at hSw); go_simp <;> with_reducible rfl
  try simp only [Act.put, sQ]
  refine tkQ 9 ?_ rfl ?_ ?_
  rotate_left
  · intro w_ hSw; (try dsimp only at hSw); go_simp <;> with_reducible rfl
  try simp only [Act.put, sQ]
  refine wpAnyH_ready (rs := [2]) (by kernel_rfl) (by simp) ?_
  refine AllReadyH.cons rfl (fun J hJ => ?_) AllReadyH.nil
  go_simp
  go_at_call 143
  refine (pastI a l n cap HL.out hn9 _ (HR.out.keep HK0.out.2.2 (Nat.le_refl _))).mono ?_
  rintro e v1 ⟨A, N, M, rfl, hring, hbc⟩
  have HG := hq hring
  have HK1 := hq (HK0.out.on hbc)
  clear hbc HK0 hring
  go_wp2_with fail
  refine hJ.out _ _ (kp_conj HK1.out) (fun hHeld1 => ?_)
  clear hJ J
  try simp only [Act.put, sQ]
  refine wpAnyH_ready (rs := [5]) (by kernel_rfl) (by simp) ?_
  refine AllReadyH.cons rfl (fun J hJ => ?_) AllReadyH.nil
  go_simp
  go_at_call 132
  refine (inRoomI a al l n cap x v HGR.out HV.out HL.out hn _ (HR.out.keep HK1.out.2.2 (Nat.le_refl _))).mono ?_
  rintro e v2 ⟨rfl, hbc⟩
  have HK2 := hq (HK1.out.on hbc)
  clear hbc HK1
  go_wp2_with fail
  refine hJ.out _ _ (kp_conj HK2.out) (fun hHeld2 => ?_)
  clear hJ J
  try simp only [Act.put, sQ]
  refine wpAnyH_ready (rs := [6]) (by kernel_rfl) (by simp) ?_
  refine AllReadyH.cons rfl (fun J hJ => ?_) AllReadyH.nil
  go_simp
  go_at_call 144
  refine (withI A N M v HG.out.1 HG.out.2.2.1 _).mono ?_
  rintro e v3 ⟨rfl, hbc⟩
  have HK3 := hq (HK2.out.on hbc)
  obtain ⟨A', hA'⟩ : ∃ A', putA A N v = A' := ⟨_, rfl⟩
  obtain ⟨N', hN'⟩ : ∃ N', (N + 1) % 9 = N' := ⟨_, rfl⟩
  obtain ⟨M', hM'⟩ : ∃ M', min (M + 1) 9 = M' := ⟨_, rfl⟩
  have HG' : Hid (Ring Y A' N' M') := by
    have h := ring_put HG.out v
    rw [hA', hN', hM', HYv.out] at h
    exact h
  rw [hA', hN', hM']
  obtain rfl : M' = m := by rw [← HG'.out.2.1]; exact HM0.out
  clear hbc HK2 hA' hN' hM' HG
  go_wp2_with fail
  refine hJ.out _ _ (kp_conj HK3.out) (fun hHeld3 => ?_)
  clear hJ J hHeld1 hHeld2
  try simp only [Act.put, sQ]
  refine wpAnyH_ready (rs := [7]) (by kernel_rfl) (by simp) ?_
  refine AllReadyH.cons rfl (fun J hJ => ?_) AllReadyH.nil
  go_simp
  go_at_call 145
  refine (listI Y A' N' M' HG'.out _).mono ?_
  rintro e v4 ⟨rfl, hrow, hbc⟩
  have HK4 := hq (HK3.out.on hbc)
  have hz3 : w.heap.size + 1 < v3.heap.size := row_lt HK3.out.2.1
  have HO4 : Hid (OwnN v4 (w.heap.size + 2) (v3.heap.size + 1) M' M' Y) := RowAt.ownN hrow (by omega) HM0.out (by have := HG'.out.2.2.1; omega)
  obtain ⟨g, hg⟩ : ∃ g, v3.heap.size + 1 = g := ⟨_, rfl⟩
  rw [hg] at HO4 ⊢
  have hg2 := HO4.out.ge
  clear hbc HK3 hrow HG' hz3 hg
  go_wp2_with fail
  refine hJ.out _ _ (kp_conj HK4.out) (fun hHeld4 => ?_)
  clear hJ J hHeld3
  try simp only [Act.put, sQ]
  refine tkQ 10 ?_ rfl ?_ ?_
  rotate_left
  · intro w_ hSw; (try dsimp only at hSw); go_simp <;> with_reducible rfl
  try simp only [Act.put, sQ]
  refine wpAnyH_ready (rs := [11]) (by kernel_rfl) (by simp) ?_
  refine AllReadyH.cons rfl (fun J hJ => ?_) AllReadyH.nil
  have kz := row2_cells HK4.out.2.1
  go_simp
  have hput1 : PutG v4 (v4.setCell ⟨w.heap.size + 1, 0, none⟩ (.slice (some ⟨g, 0, none⟩) M' M')) (w.heap.size + 1) (.cells #[.slice (some ⟨g, 0, none⟩) M' M', .int .i64 0] 32) := putG_set HK4.out.2.1
  have hput2 : PutG (v4.setCell ⟨w.heap.size + 1, 0, none⟩ (.slice (some ⟨g, 0, none⟩) M' M')) ((v4.setCell ⟨w.heap.size + 1, 0, none⟩ (.slice (some ⟨g, 0, none⟩) M' M')).setCell ⟨w.heap.size + 1, 1, none⟩ (.int .i64 al)) (w.heap.size + 1) (.cells #[.slice (some ⟨g, 0, none⟩) M' M', .int .i64 al] 32) := putG_set hput1.1
  have HK5 : Hid (KP2 w ((v4.setCell ⟨w.heap.size + 1, 0, none⟩ (.slice (some ⟨g, 0, none⟩) M' M')).setCell ⟨w.heap.size + 1, 1, none⟩ (.int .i64 al)) (.cells #[.slice a n cap, .int .i64 al] 32) (.cells #[.slice (some ⟨g, 0, none⟩) M' M', .int .i64 al] 32)) := ⟨hput2.far (hput1.far HK4.out.1 (by omega)) (by omega), hput2.1, hput2.2.2.2 _ _ (Nat.le_succ _) (hput1.2.2.2 _ _ (Nat.le_succ _) HK4.out.2.2)⟩
  have HO5 : Hid (OwnN ((v4.setCell ⟨w.heap.size + 1, 0, none⟩ (.slice (some ⟨g, 0, none⟩) M' M')).setCell ⟨w.heap.size + 1, 1, none⟩ (.int .i64 al)) (w.heap.size + 2) g M' M' Y) := hput2.own (hput1.own HO4.out (by omega)) (by omega)
  refine hJ.out _ _ (kp_conj HK5.out) (fun hHeld5 => ?_)
  clear hJ J kz HK4 HO4 hput1 hput2 hHeld4
  try simp only [Act.put, sQ]
  generalize (v4.setCell ⟨w.heap.size + 1, 0, none⟩ (.slice (some ⟨g, 0, none⟩) M' M')).setCell ⟨w.heap.size + 1, 1, none⟩ (.int .i64 al) = w5 at *
  refine wpAnyH_done (by kernel_rfl) ?_ _
  clear hHeld5
  obtain ⟨z0, z1, _⟩ := row2_cells HK5.out.2.1
  go_wp2
  refine bodyPost_ret (v := .agg #[.slice (some ⟨g, 0, none⟩) M' M', .int .i64 al]) (by simp only [results, Tryz.results84]; simp [go_sem, z0, z1]) rfl ⟨g, M', rfl, HO5.out.mono (by omega), HK5.out.2.2⟩
end Go.Proofs.YtfhhnelffldggaaGreatDoor.G
