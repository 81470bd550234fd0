/-
  Typing numbers.
-/
import Derived.Test.YtbcegpncledolaaDoorGrAB
import Derived.Test.YtbcegpncledolaaDoorGrBG
namespace Go.Proofs.YtbcegpncledolaaDoor
open Go.RowKit Go.PlainAid Plain
open Go.Lib (decDigits)
set_option linter.unusedVariables false
set_option linter.unusedSimpArgs false

theorem dig_fig {l : List UInt8} (h : Digits l) : ∀ x ∈ l, figB x = true := fun x hx => decide_eq_true (h x hx)
theorem byte_back (x : UInt8) : UInt8.ofNat ((x.toNat : Int)).toNat = x := by simp
theorem press_fig {a : Int} {b : Bool} {n d : Int} {s : List UInt8} {x : UInt8} (hok : okM ⟨a, b, n, d, s⟩ = true) (ha : a ≠ 1) (hl : s.length < 4) (hx : figB x = true) : pressM ⟨a, b, n, d, s⟩ (x.toNat : Int) = noP ⟨a, b, n, d, s ++ [x]⟩ := by
  have hx' := of_decide_eq_true hx
  unfold pressM
  rw [if_neg (by rw [hok]; decide), if_neg ha, if_pos hx', if_pos hl, byte_back]
theorem typed_all : ∀ (ds : List UInt8) (a : Int) (b : Bool) (n d : Int) (s : List UInt8), okM ⟨a, b, n, d, s⟩ = true → a ≠ 1 → s.length + ds.length ≤ 4 → (∀ x ∈ ds, figB x = true) → allM ⟨a, b, n, d, s⟩ ds = (⟨a, b, n, d, s ++ ds⟩, []) ∧ okM ⟨a, b, n, d, s ++ ds⟩ = true
  | [], a, b, n, d, s, hok, ha, hl, hf => by
    rw [List.append_nil]
    exact ⟨rfl, hok⟩
  | x :: ds, a, b, n, d, s, hok, ha, hl, hf => by
    have hp := press_fig hok ha (by simp at hl; omega) (hf x (List.mem_cons_self ..))
    have hok2 : okM ⟨a, b, n, d, s ++ [x]⟩ = true := by have h := pressM_ok hok (x.toNat : Int); rw [hp] at h; exact h
    have ih := typed_all ds a b n d (s ++ [x]) hok2 ha (by simp at hl ⊢; omega) (fun y hy => hf y (List.mem_cons_of_mem _ hy))
    rw [List.append_assoc, List.singleton_append] at ih
    refine ⟨?_, ih.2⟩
    rw [allM_cons, hp]
    dsimp only [noP]
    rw [ih.1]
    rfl
theorem press_num {b : Bool} {n d : Int} {s : List UInt8} (hok : okM ⟨2, b, n, d, s⟩ = true) : pressM ⟨2, b, n, d, s⟩ 10 = noP ⟨3, b, numF s, d, []⟩ := by
  unfold pressM
  rw [if_neg (by rw [hok]; decide)]
  rfl
theorem press_den {b : Bool} {n d : Int} {s : List UInt8} (hok : okM ⟨3, b, n, d, s⟩ = true) : pressM ⟨3, b, n, d, s⟩ 10 = noP ⟨4, b, n, numF s, []⟩ := by
  unfold pressM
  rw [if_neg (by rw [hok]; decide)]
  rfl
theorem press_end {b : Bool} {n d : Int} {s : List UInt8} (hok : okM ⟨4, b, n, d, s⟩ = true) : pressM ⟨4, b, n, d, s⟩ 10 = endM ⟨4, b, n, d, s⟩ := by
  unfold pressM
  rw [if_neg (by rw [hok]; decide)]
  rfl
theorem allM_one (m : Mn) (x : UInt8) : allM m [x] = ((pressM m (x.toNat : Int)).m, if (pressM m (x.toNat : Int)).t = true then [((pressM m (x.toNat : Int)).k, (pressM m (x.toNat : Int)).n, (pressM m (x.toNat : Int)).d, (pressM m (x.toNat : Int)).v)] else []) := rfl
/-- figures, and the byte 10 behind them -/
theorem step_num {ds : List UInt8} {b : Bool} {n d : Int} (hok : okM ⟨2, b, n, d, []⟩ = true) (hl : ds.length ≤ 4) (hf : ∀ x ∈ ds, figB x = true) : allM ⟨2, b, n, d, []⟩ (ds ++ [10]) = (⟨3, b, numF ds, d, []⟩, []) ∧ okM ⟨3, b, numF ds, d, []⟩ = true := by
  obtain ⟨h1, h2⟩ := typed_all ds 2 b n d [] hok (by decide) (by simpa using hl) hf
  rw [List.nil_append] at h1 h2
  have hp := press_num h2
  refine ⟨?_, ?_⟩
  · rw [allM_app, h1]
    dsimp only
    rw [allM_one, show ((10 : UInt8).toNat : Int) = 10 from rfl, hp]
    rfl
  · have h := pressM_ok h2 10
    rw [hp] at h
    exact h
theorem step_den {ds : List UInt8} {b : Bool} {n d : Int} (hok : okM ⟨3, b, n, d, []⟩ = true) (hl : ds.length ≤ 4) (hf : ∀ x ∈ ds, figB x = true) : allM ⟨3, b, n, d, []⟩ (ds ++ [10]) = (⟨4, b, n, numF ds, []⟩, []) ∧ okM ⟨4, b, n, numF ds, []⟩ = true := by
  obtain ⟨h1, h2⟩ := typed_all ds 3 b n d [] hok (by decide) (by simpa using hl) hf
  rw [List.nil_append] at h1 h2
  have hp := press_den h2
  refine ⟨?_, ?_⟩
  · rw [allM_app, h1]
    dsimp only
    rw [allM_one, show ((10 : UInt8).toNat : Int) = 10 from rfl, hp]
    rfl
  · have h := pressM_ok h2 10
    rw [hp] at h
    exact h
theorem step_end {ds : List UInt8} {b : Bool} {n d : Int} (hok : okM ⟨4, b, n, d, []⟩ = true) (hl : ds.length ≤ 4) (hf : ∀ x ∈ ds, figB x = true) : allM ⟨4, b, n, d, []⟩ (ds ++ [10]) = ((endM ⟨4, b, n, d, ds⟩).m, if (endM ⟨4, b, n, d, ds⟩).t = true then [((endM ⟨4, b, n, d, ds⟩).k, (endM ⟨4, b, n, d, ds⟩).n, (endM ⟨4, b, n, d, ds⟩).d, (endM ⟨4, b, n, d, ds⟩).v)] else []) := by
  obtain ⟨h1, h2⟩ := typed_all ds 4 b n d [] hok (by decide) (by simpa using hl) hf
  rw [List.nil_append] at h1 h2
  have hp := press_end h2
  rw [allM_app, h1]
  dsimp only
  rw [allM_one, show ((10 : UInt8).toNat : Int) = 10 from rfl, hp, List.nil_append]
theorem dec_num (m : Nat) : numF (decDigits m) = m := (dec_all m m (Nat.le_refl _)).2
theorem dec_figs (m : Nat) : ∀ x ∈ decDigits m, figB x = true := dig_fig (dec_all m m (Nat.le_refl _)).1
theorem dec_four {m : Nat} (h : m < 10000) : (decDigits m).length ≤ 4 := dec_len 3 m h
def basL (n d v : Nat) : List Od4 := if (1 ≤ (d : Int) ∧ (d : Int) ≤ 1000) ∧ (1 ≤ (n : Int) ∧ (n : Int) ≤ 1000) ∧ (n : Int) ≤ 3 * d ∧ (1 ≤ (v : Int) ∧ (v : Int) ≤ 5000) then [(1, (n : Int), (d : Int), (v : Int))] else []
def bolL (v : Nat) : List Od4 := if 1 ≤ (v : Int) ∧ (v : Int) ≤ 100 then [(2, 0, 0, (v : Int))] else []
theorem typed_basal {n d v : Nat} (hn : n < 10000) (hd : d < 10000) (hv : v < 10000) : allM newM ([98] ++ decDigits n ++ [10] ++ decDigits d ++ [10] ++ decDigits v ++ [10]) = (newM, basL n d v) := by
  have e : [98] ++ decDigits n ++ [10] ++ decDigits d ++ [10] ++ decDigits v ++ [10] = [98] ++ ((decDigits n ++ [10]) ++ ((decDigits d ++ [10]) ++ (decDigits v ++ [10]))) := by simp
  have h0 : allM newM [98] = (⟨2, false, 0, 0, []⟩, []) := by rfl
  have ok0 : okM ⟨2, false, 0, 0, []⟩ = true := by decide
  obtain ⟨h1, ok1⟩ := step_num ok0 (dec_four hn) (dec_figs n)
  rw [dec_num] at h1 ok1
  obtain ⟨h2, ok2⟩ := step_den ok1 (dec_four hd) (dec_figs d)
  rw [dec_num] at h2 ok2
  have h3 := step_end ok2 (dec_four hv) (dec_figs v)
  rw [e, allM_app, h0]
  dsimp only
  rw [allM_app, h1]
  dsimp only
  rw [allM_app, h2]
  dsimp only
  rw [h3, List.nil_append, List.nil_append, List.nil_append]
  unfold endM basL
  rw [if_neg (by simp)]
  dsimp only
  rw [dec_num]
  split <;> rfl
theorem typed_bolus {v : Nat} (hv : v < 10000) : allM newM ([111] ++ decDigits v ++ [10]) = (newM, bolL v) := by
  have e : [111] ++ decDigits v ++ [10] = [111] ++ (decDigits v ++ [10]) := by simp
  have h0 : allM newM [111] = (⟨4, true, 0, 0, []⟩, []) := by rfl
  have ok0 : okM ⟨4, true, 0, 0, []⟩ = true := by decide
  have h3 := step_end ok0 (dec_four hv) (dec_figs v)
  rw [e, allM_app, h0]
  dsimp only
  rw [h3, List.nil_append]
  unfold endM bolL
  rw [if_pos rfl]
  dsimp only
  rw [dec_num]
  split <;> rfl
theorem typed_c : allM newM [98, 49, 50, 99] = (newM, []) := by rfl
end Go.Proofs.YtbcegpncledolaaDoor

namespace Go.Proofs.YtbcegpncledolaaDoor.Dc
open Go.RowKit Plain Go.PlainAid
open Go.Lib (decDigits itoa)
set_option linter.unusedVariables false

theorem fig9 (x : Nat) (hx : x < 10) (w : World) :
    Calls Tryd.prog 30 #[.int .i64 x] w fun e w' => e = .returned (.int .u8 (fb x).toNat) ∧ w' = w := by
  rw [byte_fig hx]
  go_enter Tryd.func30, Tryd.ntmps30
  go_wp2
  go_ret
  exact ⟨by simp, rfl⟩

/-- the text of one byte that has just been laid -/
theorem one_text (b : UInt8) (w : World) : (convert 22 9 (.slice (some ⟨w.heap.size, 0, none⟩) 1 1)).run Tryd.prog (w.alloc (.cells #[.int .u8 (b.toNat : Int)] 5)) = .ok (.string ⟨[b].toArray⟩) (w.alloc (.cells #[.int .u8 (b.toNat : Int)] 5)) :=
  run_convert_bytes_back (P := Tryd.prog) _ 22 9 5 ⟨w.heap.size, 0, none⟩ 1 [b] Tryd.underlying22 Tryd.underlying5 Tryd.underlying9 (fun j hj => by
    obtain rfl : j = 0 := by simpa using hj
    simp [Addr.add])

theorem cat_one (b : UInt8) (acc : List UInt8) : (⟨#[b]⟩ : ByteArray) ++ ⟨acc.toArray⟩ = ⟨(b :: acc).toArray⟩ := by
  apply ByteArray.ext
  simp
theorem acc_size (acc : List UInt8) : (ByteArray.mk acc.toArray).size = acc.length := by
  show acc.toArray.size = _
  exact List.size_toArray
theorem fig9' (X : Int) (x : Nat) (hX : X = x) (hx : x < 10) (w : World) :
    Calls Tryd.prog 30 #[.int .i64 X] w fun e w' => e = .returned (.int .u8 (fb x).toNat) ∧ w' = w := by
  subst hX; exact fig9 x hx w

set_option maxRecDepth 100000 in
set_option maxHeartbeats 400000 in
theorem dec5_pos (n : Nat) (h0 : n ≠ 0) (hn : n ≤ 9223372036854775807) (w : World) :
    Calls Tryd.prog 11 #[.int .i64 n] w fun e w' => e = .returned (.string ⟨(decDigits n).toArray⟩) ∧ Below w.heap.size w w' := by
  have hz : ((n : Int) == 0) = false := by simp; omega
  have hlt : ¬ ((n : Int) < 0) := by omega
  go_enter Tryd.func11, Tryd.ntmps11
  go_wp2
  go_loopw [0, 4] (fun nv sv wr => ∃ (u : Nat) (acc : List UInt8), nv = .int .i64 u ∧ sv = .string ⟨acc.toArray⟩ ∧ u ≤ 9223372036854775807 ∧ acc.length ≤ 20 ∧ Hid (u < 10 ^ (20 - acc.length)) ∧ Hid (dig u acc = decDigits n) ∧ Below w.heap.size w wr) (fun nv _ _ => (intOf nv).toNat)
  case atStart => exact ⟨n, [], rfl, rfl, hn, by simp, (show Hid _ from pow_start (by omega)), (show Hid _ from dig_start h0), Below.refl _ _⟩
  case round =>
    obtain ⟨u, acc, rfl, rfl, hu, hl, HP, HD, hnx⟩ := hrel
    by_cases hu0 : u = 0
    · subst hu0
      have HE : Hid (acc = decDigits n) := by have := HD.out; rw [dig_zero] at this; exact this
      go_wp2
      go_ret
      exact ⟨by rw [← HE.out]; rfl, hnx⟩
    · have hne : ((u : Int) != 0) = true := by simp; omega
      have P1 := pow_step HP.out hu0 hl
      have HP' : Hid _ := P1.2
      have hl' := P1.1
      have HD' : Hid (dig (u / 10) (fb (u % 10) :: acc) = decDigits n) := by have := HD.out; rw [← dig_step hu0] at this; exact this
      have hone := one_text (fb (u % 10)) wr
      clear P1 HP HD hz
      have hsz : (ByteArray.mk acc.toArray).size ≤ 20 := by rw [acc_size]; exact hl
      go_wp2_with fail
      refine (fig9' _ (u % 10) (by omega) (by omega) _).mono ?_
      rintro e w2 ⟨rfl, rfl⟩
      go_wp2
      go_roundw
      case rel => exact ⟨u / 10, fb (u % 10) :: acc, by go_num, by rw [cat_one], by omega, by simp; omega, HP', HD', hnx.alloc hnx.size _⟩
      case measure => simp [intOf]; omega

theorem dec5_zero (w : World) :
    Calls Tryd.prog 11 #[.int .i64 0] w fun e w' => e = .returned (.string ⟨#[48]⟩) ∧ Below w.heap.size w w' := by
  go_enter Tryd.func11, Tryd.ntmps11
  go_wp2
  go_ret
  exact ⟨rfl, Below.refl _ _⟩

theorem decS (n : Nat) (hn : n ≤ 1000000) (w : World) :
    Calls Tryd.prog 11 #[.int .i64 n] w fun e w' => e = .returned (.string ⟨(decDigits n).toArray⟩) ∧ Below w.heap.size w w' := by
  by_cases hz : n = 0
  · subst hz
    have e : decDigits 0 = [48] := by decide +kernel
    rw [e]
    exact dec5_zero w
  · exact dec5_pos n hz (by omega) w
end Go.Proofs.YtbcegpncledolaaDoor.Dc
