/-
  Guards, in a namespace of their own.
-/
import Derived.Test.YtckeffccoghgeaaDoorGB
namespace Go.Proofs.YtckeffccoghgeaaDoor.G
open Go.RowKit Go.PlainAid
set_option linter.unusedVariables false
set_option linter.unusedSimpArgs false

theorem wrap_sub (s x : Int) : IntKind.i64.wrap (IntKind.i64.wrap s - x) = IntKind.i64.wrap (s - x) := by
  rw [IntKind.wrap_i64, IntKind.wrap_i64, IntKind.wrap_i64]
  omega
theorem wrap_sub2 (s x : Int) : IntKind.i64.wrap (s - IntKind.i64.wrap x) = IntKind.i64.wrap (s - x) := by
  rw [IntKind.wrap_i64, IntKind.wrap_i64, IntKind.wrap_i64]
  omega
set_option maxRecDepth 100000 in
set_option maxHeartbeats 1000000 in
theorem roomI (a : Option Addr) (al : Int) (l : List Int) (n cap : Nat) (R : Int) (hR : IntKind.i64.wrap (30 - sumW l) = R) (hl : l.length = n) (hn : n ≤ 1048576) (w : World) (hr : Rd w a l) :
    Calls Tryd.prog 56 #[.agg #[.slice a n cap, .int .i64 al]] w fun e w' => e = .returned (.int .i64 R) ∧ Below w.heap.size w w' := by
  have HB : Hid (Below w.heap.size w (w.alloc (.cells #[.slice a n cap, .int .i64 al] 39))) := alG _ _
  have HR : Hid (Rd (w.alloc (.cells #[.slice a n cap, .int .i64 al] 39)) a l) := hr.keep HB.out (Nat.le_refl _)
  have HL : Hid (l.length = n) := hl
  have HE : Hid (IntKind.i64.wrap (30 - sumN l) = R) := by show _ = _; rw [← hR]; unfold sumW; exact (wrap_sub2 _ _).symm
  have k0 := row2_cells (heap_new w (.cells #[.slice a n cap, .int .i64 al] 39))
  clear hl hr hR
  go_enter Tryd.func56, Tryd.ntmps56
  go_wp2
  generalize w.alloc (.cells #[.slice a n cap, .int .i64 al] 39) = W at *
  go_loopg [3, 9] n (fun gk s i wr => ∃ (j : Nat) (S : Int), j + gk = n ∧ i = .int .i64 j ∧ s = .int .i64 S ∧ Hid (S = IntKind.i64.wrap (30 - sumN (l.take j))) ∧ wr = W)
  case atStart => exact ⟨0, 30, by omega, rfl, rfl, (by show _ = _; rw [List.take_zero]; exact (wrap_in (by simp [sumN]) (by simp [sumN])).symm), rfl⟩
  case round =>
    obtain ⟨j, S, hj, rfl, rfl, HS, rfl⟩ := hrel
    by_cases hlt : j < n
    · have hjl : j < l.length := by have := HL.out; omega
      obtain ⟨g, off, ha, hc⟩ := HR.out (by omega)
      subst ha
      have c1 := hc j hjl
      clear hc
      obtain ⟨x, hx⟩ : ∃ x, l[j] = x := ⟨_, rfl⟩
      rw [hx] at c1
      obtain ⟨T, hT⟩ : ∃ T, IntKind.i64.wrap (S - x) = T := ⟨_, rfl⟩
      have HT : Hid (T = IntKind.i64.wrap (30 - sumN (l.take (j + 1)))) := by
        show _ = _
        rw [← hT, HS.out, ← hx, sumN_take hjl, wrap_sub]
        congr 1
        omega
      clear hx HS
      go_wp2
      go_roundg (gk - 1)
      case measure => omega
      case rel => exact ⟨j + 1, T, by omega, by go_num, rfl, HT, rfl⟩
    · obtain rfl : j = n := by omega
      have HF : Hid (S = R) := by show _ = _; rw [HS.out, ← HE.out, ← HL.out, List.take_length]
      clear HS
      go_wp2
      go_ret
      exact ⟨by rw [HF.out]; rfl, HB.out⟩
set_option maxRecDepth 100000 in
set_option maxHeartbeats 1000000 in
theorem pulsI (a : Option Addr) (l : List Int) (n cap : Nat) (B : Bool) (hB : B = true ↔ AllG l l.length) (hl : l.length = n) (hn : n ≤ 1048576) (w : World) (hr : Rd w a l) :
    Calls Tryd.prog 55 #[.slice a n cap] w fun e w' => e = .returned (.bool B) ∧ Below w.heap.size w w' := by
  have HB : Hid (B = true ↔ AllG l l.length) := hB
  have HL : Hid (l.length = n) := hl
  have HR : Hid (Rd w a l) := hr
  clear hl hr hB
  go_enter Tryd.func55, Tryd.ntmps55
  go_wp2
  go_loopg [7] n (fun gk i wr => ∃ (j : Nat), j + gk = n ∧ i = .int .i64 j ∧ Hid (AllG l j) ∧ Hid (Below w.heap.size w wr))
  case atStart => exact ⟨0, by omega, rfl, allG_zero l, Below.refl _ _⟩
  case round =>
    obtain ⟨j, hj, rfl, HI, HW⟩ := hrel
    by_cases hlt : j < n
    · have hjl : j < l.length := by have := HL.out; omega
      obtain ⟨g, off, ha, hc⟩ := HR.out (by omega)
      subst ha
      have c1 := (HW.out.cell (p := ⟨g, off + j, none⟩) (World.block_lt_of_cell? w ⟨g, off + j, none⟩ (hc j hjl))).trans (hc j hjl)
      clear hc
      obtain ⟨x, hx⟩ : ∃ x, l[j] = x := ⟨_, rfl⟩
      rw [hx] at c1
      have HF : Hid (l[j] = x) := hx
      clear hx
      by_cases hf : 0 ≤ x ∧ x ≤ 30
      · have hd : decide ((0 : Int) ≤ x ∧ x ≤ 30) = true := decide_eq_true hf
        have HI' : Hid (AllG l (j + 1)) := allG_succ HI.out hjl (by rw [HF.out]; exact hf)
        clear hf HI
        go_wp2_with fail
        refine (H.holdsI 0 30 x true hd _).mono ?_
        rintro e w1 ⟨rfl, hb1⟩
        have HW1 : Hid (Below w.heap.size w w1) := bel_on (Nat.le_refl _) HW.out hb1
        clear hd hb1
        go_wp2
        go_roundg (gk - 1)
        case measure => omega
        case rel => exact ⟨j + 1, by omega, by go_num, HI', HW1⟩
      · have hd : decide ((0 : Int) ≤ x ∧ x ≤ 30) = false := decide_eq_false hf
        have HE : Hid (B = false) := by
          show _ = _
          cases B
          · rfl
          · exact absurd (by have := HB.out.1 rfl j hjl hjl; rw [HF.out] at this; exact this) hf
        clear hf HI
        go_wp2_with fail
        refine (H.holdsI 0 30 x false hd _).mono ?_
        rintro e w1 ⟨rfl, hb1⟩
        have HW1 : Hid (Below w.heap.size w w1) := bel_on (Nat.le_refl _) HW.out hb1
        clear hd hb1
        go_wp2
        go_ret
        exact ⟨by rw [HE.out]; rfl, HW1.out⟩
    · have HE : Hid (B = true) := HB.out.2 (fun i h _ => HI.out i h (by have := HL.out; omega))
      clear HI
      go_wp2
      go_ret
      exact ⟨by rw [HE.out]; rfl, HW.out⟩
theorem puls_bool (l : List Int) : ∃ b : Bool, b = true ↔ AllG l l.length := by
  by_cases h : AllG l l.length
  · exact ⟨true, fun _ => h, fun _ => rfl⟩
  · exact ⟨false, fun e => (by cases e), fun e => absurd e h⟩
set_option maxRecDepth 100000 in
set_option maxHeartbeats 2000000 in
theorem guardokI (a : Option Addr) (al : Int) (l : List Int) (n cap : Nat) (b : Bool) (hl : l.length = n) (hn : n ≤ 9223372036854775807) (hb : b = true ↔ GdR l al) (w : World) (hr : Rd w a l) :
    Calls Tryd.prog 39 #[.agg #[.slice a n cap, .int .i64 al]] w fun e w' => e = .returned (.bool b) ∧ Below w.heap.size w w' := by
  have HB : Hid (b = true ↔ GdR l al) := hb
  have HL : Hid (l.length = n) := hl
  obtain ⟨h1, h2, h3⟩ := box2 w (.slice a n cap) (.int .i64 al) 39
  have HX : Hid (_ = _) := h1
  have HW : Hid (Below _ _ _) := h2
  have HR : Hid (Rd _ a l) := hr.keep h2 (Nat.le_refl _)
  have k0 := row2_cells h1
  clear hb hl hr h1 h2 h3
  by_cases hal : 0 ≤ al ∧ al ≤ 15
  case neg =>
    have HE : Hid (b = false) := not_gd HB.out (fun h => hal h.2.1)
    have hd : decide ((0 : Int) ≤ al ∧ al ≤ 15) = false := decide_eq_false hal
    go_enter Tryd.func39, Tryd.ntmps39
    go_wp2_with fail
    refine (H.senseI al false hd _).mono ?_
    rintro e w1 ⟨rfl, hb1⟩
    have HW1 : Hid (Below w.heap.size w w1) := bel_on (Nat.le_refl _) HW.out hb1
    clear hb1
    go_wp2
    go_ret
    exact ⟨by rw [HE.out]; rfl, HW1.out⟩
  have HAL : Hid (0 ≤ al ∧ al ≤ 15) := hal
  have hd : decide ((0 : Int) ≤ al ∧ al ≤ 15) = true := decide_eq_true hal
  clear hal
  go_enter Tryd.func39, Tryd.ntmps39
  go_wp2_with fail
  refine (H.senseI al true hd _).mono ?_
  rintro e w1 ⟨rfl, hb1⟩
  have HX1 : Hid (w1.heap[w.heap.size]? = _) := row_on HX.out hb1
  have HW1 : Hid (Below w.heap.size w w1) := bel_on (Nat.le_refl _) HW.out hb1
  have HR1 : Hid (Rd w1 a l) := HR.out.keep hb1 (Nat.le_refl _)
  have k1 := row2_cells HX1.out
  clear hb1 hd HX HW HR k0
  by_cases h9 : n ≤ 9
  case neg =>
    have HE : Hid (b = false) := not_gd HB.out (fun h => by have := h.1; have := HL.out; omega)
    have h9' : ¬ (n : Int) ≤ 9 := by omega
    go_wp2
    go_ret
    exact ⟨by rw [HE.out]; rfl, HW1.out⟩
  have h9' : (n : Int) ≤ 9 := by omega
  obtain ⟨B, hB⟩ := puls_bool l
  have HP : Hid (B = true ↔ AllG l l.length) := hB
  clear hB
  go_wp2_with fail
  refine (pulsI a l n cap B HP.out HL.out (by omega) _ HR1.out).mono ?_
  rintro e w2 ⟨rfl, hb1⟩
  have HX2 : Hid (w2.heap[w.heap.size]? = _) := row_on HX1.out hb1
  have HW2 : Hid (Below w.heap.size w w2) := bel_on (Nat.le_refl _) HW1.out hb1
  have HR2 : Hid (Rd w2 a l) := HR1.out.keep hb1 (Nat.le_refl _)
  have k2 := row2_cells HX2.out
  clear hb1 HX1 HW1 HR1 k1
  cases B
  · have HE : Hid (b = false) := not_gd HB.out (fun h => by have := HP.out.2 (fun i hi _ => h.2.2.1 i hi); cases this)
    go_wp2
    go_ret
    exact ⟨by rw [HE.out]; rfl, HW2.out⟩
  have HS : Hid (sumW l = sumN l) := sumW_in (fun i h => HP.out.1 rfl i h h) (by have := HL.out; omega)
  have hbd := sumN_bd (l := l) (fun i h => HP.out.1 rfl i h h)
  have hlen := HL.out
  obtain ⟨R, hR⟩ : ∃ R, 30 - sumN l = R := ⟨_, rfl⟩
  have HRM : Hid (IntKind.i64.wrap (30 - sumW l) = R) := by show _ = _; rw [HS.out, hR]; exact wrap_in (by omega) (by omega)
  have HE : Hid (b = decide (0 ≤ R)) := by
    show _ = _
    have h0 : 0 ≤ R ↔ sumN l ≤ 30 := by omega
    by_cases h : 0 ≤ R
    · rw [decide_eq_true h]; exact HB.out.2 ⟨by omega, HAL.out, fun i hi => HP.out.1 rfl i hi hi, h0.1 h⟩
    · rw [decide_eq_false h]; exact not_gd HB.out (fun x => h (h0.2 x.2.2.2))
  clear hbd hlen hR
  go_wp2_with fail
  refine (roomI a al l n cap R HRM.out HL.out (by omega) _ HR2.out).mono ?_
  rintro e w3 ⟨rfl, hb1⟩
  have HW3 : Hid (Below w.heap.size w w3) := bel_on (Nat.le_refl _) HW2.out hb1
  clear hb1
  go_wp2
  go_ret
  exact ⟨by rw [HE.out]; rfl, HW3.out⟩
theorem or_fin : ∀ a b : Fin 16, IntKind.i64.wrap ((BitVec.ofInt 64 (a.val : Int) ||| BitVec.ofInt 64 (b.val : Int)).toNat : Int) = orI (a.val : Int) (b.val : Int) := by decide
theorem or_is {a b : Int} (ha : 0 ≤ a ∧ a ≤ 15) (hb : 0 ≤ b ∧ b ≤ 15) : IntKind.i64.wrap ((BitVec.ofInt 64 a ||| BitVec.ofInt 64 b).toNat : Int) = orI a b := by
  have h := or_fin ⟨a.toNat, by omega⟩ ⟨b.toNat, by omega⟩
  simp only [Int.toNat_of_nonneg ha.1, Int.toNat_of_nonneg hb.1] at h
  exact h
end Go.Proofs.YtckeffccoghgeaaDoor.G

namespace Go.Proofs.YtckeffccoghgeaaDoor.G
open Go.RowKit Go.PlainAid
set_option linter.unusedVariables false
set_option linter.unusedSimpArgs false

def putA (A : Nat → Int) (k : Nat) (v : Int) : Nat → Int := fun i => if i = k then v else A i
def Ring (l : List Int) (A : Nat → Int) (N M : Nat) : Prop := N < 9 ∧ l.length = M ∧ M ≤ 9 ∧ ∀ i (h : i < l.length), A ((N + 9 - (i + 1)) % 9) = l[i]
theorem ring_nil : Ring [] (fun _ => 0) 0 0 := ⟨by omega, rfl, by omega, fun i h => by simp at h⟩
theorem ring_put {l : List Int} {A : Nat → Int} {N M : Nat} (h : Ring l A N M) (v : Int) : Ring ((v :: l).take 9) (putA A N v) ((N + 1) % 9) (min (M + 1) 9) := by
  obtain ⟨h1, h2, h3, h4⟩ := h
  refine ⟨by omega, by simp; omega, by omega, fun i hi => ?_⟩
  have hi9 : i < 9 := by simp at hi; omega
  have hil : i < l.length + 1 := by simp at hi; omega
  rw [List.getElem_take]
  unfold putA
  cases i with
  | zero => rw [if_pos (by omega)]; rfl
  | succ i =>
    rw [if_neg (by omega), List.getElem_cons_succ, ← h4 i (by omega)]
    congr 1
    omega
theorem row11_cells {w : World} {k : Nat} {t : TypeId} {u0 u1 u2 u3 u4 u5 u6 u7 u8 u9 u10 : Value} (h : w.heap[k]? = some (.cells #[u0, u1, u2, u3, u4, u5, u6, u7, u8, u9, u10] t)) :
    w.cell? ⟨k, 0, none⟩ = some u0 ∧ w.cell? ⟨k, 1, none⟩ = some u1 ∧ w.cell? ⟨k, 2, none⟩ = some u2 ∧ w.cell? ⟨k, 3, none⟩ = some u3 ∧ w.cell? ⟨k, 4, none⟩ = some u4 ∧ w.cell? ⟨k, 5, none⟩ = some u5 ∧ w.cell? ⟨k, 6, none⟩ = some u6 ∧ w.cell? ⟨k, 7, none⟩ = some u7 ∧ w.cell? ⟨k, 8, none⟩ = some u8 ∧ w.cell? ⟨k, 9, none⟩ = some u9 ∧ w.cell? ⟨k, 10, none⟩ = some u10 ∧ w.frozen? ⟨k, 0, none⟩ = false ∧ w.frozen? ⟨k, 1, none⟩ = false ∧ w.frozen? ⟨k, 2, none⟩ = false ∧ w.frozen? ⟨k, 3, none⟩ = false ∧ w.frozen? ⟨k, 4, none⟩ = false ∧ w.frozen? ⟨k, 5, none⟩ = false ∧ w.frozen? ⟨k, 6, none⟩ = false ∧ w.frozen? ⟨k, 7, none⟩ = false ∧ w.frozen? ⟨k, 8, none⟩ = false ∧ w.frozen? ⟨k, 9, none⟩ = false ∧ w.frozen? ⟨k, 10, none⟩ = false := by
  refine ⟨?_, ?_, ?_, ?_, ?_, ?_, ?_, ?_, ?_, ?_, ?_, ?_, ?_, ?_, ?_, ?_, ?_, ?_, ?_, ?_, ?_, ?_⟩ <;> simp [World.cell?, World.frozen?, h]
theorem row_put (A : Nat → Int) (N M : Int) (k : Nat) (hk : k < 9) (v : Int) : (#[.int .i64 (A 0), .int .i64 (A 1), .int .i64 (A 2), .int .i64 (A 3), .int .i64 (A 4), .int .i64 (A 5), .int .i64 (A 6), .int .i64 (A 7), .int .i64 (A 8), .int .i64 N, .int .i64 M] : Array Value).setIfInBounds k (.int .i64 v) = #[.int .i64 ((putA A k v) 0), .int .i64 ((putA A k v) 1), .int .i64 ((putA A k v) 2), .int .i64 ((putA A k v) 3), .int .i64 ((putA A k v) 4), .int .i64 ((putA A k v) 5), .int .i64 ((putA A k v) 6), .int .i64 ((putA A k v) 7), .int .i64 ((putA A k v) 8), .int .i64 N, .int .i64 M] := by
  have : k = 0 ∨ k = 1 ∨ k = 2 ∨ k = 3 ∨ k = 4 ∨ k = 5 ∨ k = 6 ∨ k = 7 ∨ k = 8 := by omega
  rcases this with rfl | rfl | rfl | rfl | rfl | rfl | rfl | rfl | rfl <;> rfl
theorem row_at {w : World} {g : Nat} {A : Nat → Int} {N M : Int} {t : TypeId} (h : w.heap[g]? = some (.cells #[.int .i64 (A 0), .int .i64 (A 1), .int .i64 (A 2), .int .i64 (A 3), .int .i64 (A 4), .int .i64 (A 5), .int .i64 (A 6), .int .i64 (A 7), .int .i64 (A 8), .int .i64 N, .int .i64 M] t)) (k : Nat) (hk : k < 9) : w.cell? ⟨g, k, none⟩ = some (.int .i64 (A k)) := by
  have : k = 0 ∨ k = 1 ∨ k = 2 ∨ k = 3 ∨ k = 4 ∨ k = 5 ∨ k = 6 ∨ k = 7 ∨ k = 8 := by omega
  rcases this with rfl | rfl | rfl | rfl | rfl | rfl | rfl | rfl | rfl <;> simp [World.cell?, h]
theorem box11b (w : World) (o p : Obj) :
    ((w.alloc o).alloc p).heap[w.heap.size]? = some o ∧ ((w.alloc o).alloc p).heap[w.heap.size + 1]? = some p ∧ Below w.heap.size w ((w.alloc o).alloc p) ∧ ((w.alloc o).alloc p).heap.size = w.heap.size + 2 := by
  have h0 := heap_new w o
  have h1 := heap_new (w.alloc o) p
  refine ⟨(Below.heap_alloc _ _ _ (by simp)).trans h0, by simpa using h1, ((Below.refl _ _).alloc (Nat.le_refl _) _).alloc (by simp) _, by simp⟩
end Go.Proofs.YtckeffccoghgeaaDoor.G

namespace Go.Proofs.YtckeffccoghgeaaDoor.G
open Go.RowKit Go.PlainAid
set_option linter.unusedVariables false
set_option linter.unusedSimpArgs false

theorem intsV_put (l : List Int) (j : Nat) (x : Int) : (intsV l).toArray.setIfInBounds j (.int .i64 x) = (intsV (l.set j x)).toArray := by
  simp [intsV, List.map_set]
theorem drop_take {l : List Int} {j n : Nat} (hl : l.length = n) (hn : n ≤ 9) (hj : j < n) (hk : n - 1 - j < l.length) : (l[n - 1 - j] :: l.drop (n - j)).take 9 = l.drop (n - (j + 1)) := by
  have h1 : n - (j + 1) = n - 1 - j := by omega
  have h2 : n - j = n - 1 - j + 1 := by omega
  rw [h1, h2, ← List.drop_eq_getElem_cons hk]
  exact List.take_of_length_le (by simp; omega)
end Go.Proofs.YtckeffccoghgeaaDoor.G

namespace Go.Proofs.YtckeffccoghgeaaDoor.G
open Go.RowKit Go.PlainAid
set_option linter.unusedVariables false
set_option linter.unusedSimpArgs false

/-- two boxed guards behind what only grew -/
def KP2 (w w' : World) (p z : Obj) : Prop := w'.heap[w.heap.size]? = some p ∧ w'.heap[w.heap.size + 1]? = some z ∧ Below w.heap.size w w'
theorem KP2.on {w w' w2 : World} {p z : Obj} (h : KP2 w w' p z) (hb : Below w'.heap.size w' w2) : KP2 w w2 p z := ⟨row_on h.1 hb, row_on h.2.1 hb, bel_on (Nat.le_refl _) h.2.2 hb⟩
theorem kp_conj {w w' : World} {x y : Value} {T : TypeId} {z : Obj} (h : KP2 w w' (.cells #[x, y] T) z) : w'.cell? ⟨w.heap.size, 0, none⟩ = some x ∧ w'.cell? ⟨w.heap.size, 1, none⟩ = some y ∧ Below w.heap.size w w' := by
  refine ⟨?_, ?_, h.2.2⟩ <;> simp [World.cell?, h.1]
end Go.Proofs.YtckeffccoghgeaaDoor.G
