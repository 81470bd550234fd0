/-
  Typing numbers.
-/
import Derived.Test.YtjaimcmnndejgaaMnM
import Derived.Test.YtjaimcmnndejgaaDMath2
namespace Go.Proofs.Ytjaimcmnndejgaa
open Go.RowKit Go.PlainAid Plain
open Go.Lib (decDigits)
set_option linter.unusedVariables false
set_option linter.unusedSimpArgs false

theorem dig_fig {l : List UInt8} (h : Digits l) : ∀ x ∈ l, figB x = true := fun x hx => decide_eq_true (h x hx)
theorem byte_back (x : UInt8) : UInt8.ofNat ((x.toNat : Int)).toNat = x := by simp
theorem press_fig {a : Int} {b : Bool} {n d : Int} {s : List UInt8} {x : UInt8} (hok : okM ⟨a, b, n, d, s⟩ = true) (ha : a ≠ 1) (hl : s.length < 4) (hx : figB x = true) : pressM ⟨a, b, n, d, s⟩ (x.toNat : Int) = noP ⟨a, b, n, d, s ++ [x]⟩ := by
  have hx' := of_decide_eq_true hx
  unfold pressM
  rw [if_neg (by rw [hok]; decide), if_neg ha, if_pos hx', if_pos hl, byte_back]
theorem typed_all : ∀ (ds : List UInt8) (a : Int) (b : Bool) (n d : Int) (s : List UInt8), okM ⟨a, b, n, d, s⟩ = true → a ≠ 1 → s.length + ds.length ≤ 4 → (∀ x ∈ ds, figB x = true) → allM ⟨a, b, n, d, s⟩ ds = (⟨a, b, n, d, s ++ ds⟩, []) ∧ okM ⟨a, b, n, d, s ++ ds⟩ = true
  | [], a, b, n, d, s, hok, ha, hl, hf => by
    rw [List.append_nil]
    exact ⟨rfl, hok⟩
  | x :: ds, a, b, n, d, s, hok, ha, hl, hf => by
    have hp := press_fig hok ha (by simp at hl; omega) (hf x (List.mem_cons_self ..))
    have hok2 : okM ⟨a, b, n, d, s ++ [x]⟩ = true := by have h := pressM_ok hok (x.toNat : Int); rw [hp] at h; exact h
    have ih := typed_all ds a b n d (s ++ [x]) hok2 ha (by simp at hl ⊢; omega) (fun y hy => hf y (List.mem_cons_of_mem _ hy))
    rw [List.append_assoc, List.singleton_append] at ih
    refine ⟨?_, ih.2⟩
    rw [allM_cons, hp]
    dsimp only [noP]
    rw [ih.1]
    rfl
theorem press_num {b : Bool} {n d : Int} {s : List UInt8} (hok : okM ⟨2, b, n, d, s⟩ = true) : pressM ⟨2, b, n, d, s⟩ 10 = noP ⟨3, b, numF s, d, []⟩ := by
  unfold pressM
  rw [if_neg (by rw [hok]; decide)]
  rfl
theorem press_den {b : Bool} {n d : Int} {s : List UInt8} (hok : okM ⟨3, b, n, d, s⟩ = true) : pressM ⟨3, b, n, d, s⟩ 10 = noP ⟨4, b, n, numF s, []⟩ := by
  unfold pressM
  rw [if_neg (by rw [hok]; decide)]
  rfl
theorem press_end {b : Bool} {n d : Int} {s : List UInt8} (hok : okM ⟨4, b, n, d, s⟩ = true) : pressM ⟨4, b, n, d, s⟩ 10 = endM ⟨4, b, n, d, s⟩ := by
  unfold pressM
  rw [if_neg (by rw [hok]; decide)]
  rfl
theorem allM_one (m : Mn) (x : UInt8) : allM m [x] = ((pressM m (x.toNat : Int)).m, if (pressM m (x.toNat : Int)).t = true then [((pressM m (x.toNat : Int)).k, (pressM m (x.toNat : Int)).n, (pressM m (x.toNat : Int)).d, (pressM m (x.toNat : Int)).v)] else []) := rfl
/-- figures, and the byte 10 behind them -/
theorem step_num {ds : List UInt8} {b : Bool} {n d : Int} (hok : okM ⟨2, b, n, d, []⟩ = true) (hl : ds.length ≤ 4) (hf : ∀ x ∈ ds, figB x = true) : allM ⟨2, b, n, d, []⟩ (ds ++ [10]) = (⟨3, b, numF ds, d, []⟩, []) ∧ okM ⟨3, b, numF ds, d, []⟩ = true := by
  obtain ⟨h1, h2⟩ := typed_all ds 2 b n d [] hok (by decide) (by simpa using hl) hf
  rw [List.nil_append] at h1 h2
  have hp := press_num h2
  refine ⟨?_, ?_⟩
  · rw [allM_app, h1]
    dsimp only
    rw [allM_one, show ((10 : UInt8).toNat : Int) = 10 from rfl, hp]
    rfl
  · have h := pressM_ok h2 10
    rw [hp] at h
    exact h
theorem step_den {ds : List UInt8} {b : Bool} {n d : Int} (hok : okM ⟨3, b, n, d, []⟩ = true) (hl : ds.length ≤ 4) (hf : ∀ x ∈ ds, figB x = true) : allM ⟨3, b, n, d, []⟩ (ds ++ [10]) = (⟨4, b, n, numF ds, []⟩, []) ∧ okM ⟨4, b, n, numF ds, []⟩ = true := by
  obtain ⟨h1, h2⟩ := typed_all ds 3 b n d [] hok (by decide) (by simpa using hl) hf
  rw [List.nil_append] at h1 h2
  have hp := press_den h2
  refine ⟨?_, ?_⟩
  · rw [allM_app, h1]
    dsimp only
    rw [allM_one, show ((10 : UInt8).toNat : Int) = 10 from rfl, hp]
    rfl
  · have h := pressM_ok h2 10
    rw [hp] at h
    exact h
theorem step_end {ds : List UInt8} {b : Bool} {n d : Int} (hok : okM ⟨4, b, n, d, []⟩ = true) (hl : ds.length ≤ 4) (hf : ∀ x ∈ ds, figB x = true) : allM ⟨4, b, n, d, []⟩ (ds ++ [10]) = ((endM ⟨4, b, n, d, ds⟩).m, if (endM ⟨4, b, n, d, ds⟩).t = true then [((endM ⟨4, b, n, d, ds⟩).k, (endM ⟨4, b, n, d, ds⟩).n, (endM ⟨4, b, n, d, ds⟩).d, (endM ⟨4, b, n, d, ds⟩).v)] else []) := by
  obtain ⟨h1, h2⟩ := typed_all ds 4 b n d [] hok (by decide) (by simpa using hl) hf
  rw [List.nil_append] at h1 h2
  have hp := press_end h2
  rw [allM_app, h1]
  dsimp only
  rw [allM_one, show ((10 : UInt8).toNat : Int) = 10 from rfl, hp, List.nil_append]
theorem dec_num (m : Nat) : numF (decDigits m) = m := (dec_all m m (Nat.le_refl _)).2
theorem dec_figs (m : Nat) : ∀ x ∈ decDigits m, figB x = true := dig_fig (dec_all m m (Nat.le_refl _)).1
theorem dec_four {m : Nat} (h : m < 10000) : (decDigits m).length ≤ 4 := dec_len 3 m h
def basL (n d v : Nat) : List Od4 := if (1 ≤ (d : Int) ∧ (d : Int) ≤ 1000) ∧ (1 ≤ (n : Int) ∧ (n : Int) ≤ 1000) ∧ (n : Int) ≤ 3 * d ∧ (1 ≤ (v : Int) ∧ (v : Int) ≤ 5000) then [(1, (n : Int), (d : Int), (v : Int))] else []
def bolL (v : Nat) : List Od4 := if 1 ≤ (v : Int) ∧ (v : Int) ≤ 100 then [(2, 0, 0, (v : Int))] else []
theorem typed_basal {n d v : Nat} (hn : n < 10000) (hd : d < 10000) (hv : v < 10000) : allM newM ([98] ++ decDigits n ++ [10] ++ decDigits d ++ [10] ++ decDigits v ++ [10]) = (newM, basL n d v) := by
  have e : [98] ++ decDigits n ++ [10] ++ decDigits d ++ [10] ++ decDigits v ++ [10] = [98] ++ ((decDigits n ++ [10]) ++ ((decDigits d ++ [10]) ++ (decDigits v ++ [10]))) := by simp
  have h0 : allM newM [98] = (⟨2, false, 0, 0, []⟩, []) := by rfl
  have ok0 : okM ⟨2, false, 0, 0, []⟩ = true := by decide
  obtain ⟨h1, ok1⟩ := step_num ok0 (dec_four hn) (dec_figs n)
  rw [dec_num] at h1 ok1
  obtain ⟨h2, ok2⟩ := step_den ok1 (dec_four hd) (dec_figs d)
  rw [dec_num] at h2 ok2
  have h3 := step_end ok2 (dec_four hv) (dec_figs v)
  rw [e, allM_app, h0]
  dsimp only
  rw [allM_app, h1]
  dsimp only
  rw [allM_app, h2]
  dsimp only
  rw [h3, List.nil_append, List.nil_append, List.nil_append]
  unfold endM basL
  rw [if_neg (by simp)]
  dsimp only
  rw [dec_num]
  split <;> rfl
theorem typed_bolus {v : Nat} (hv : v < 10000) : allM newM ([111] ++ decDigits v ++ [10]) = (newM, bolL v) := by
  have e : [111] ++ decDigits v ++ [10] = [111] ++ (decDigits v ++ [10]) := by simp
  have h0 : allM newM [111] = (⟨4, true, 0, 0, []⟩, []) := by rfl
  have ok0 : okM ⟨4, true, 0, 0, []⟩ = true := by decide
  have h3 := step_end ok0 (dec_four hv) (dec_figs v)
  rw [e, allM_app, h0]
  dsimp only
  rw [h3, List.nil_append]
  unfold endM bolL
  rw [if_pos rfl]
  dsimp only
  rw [dec_num]
  split <;> rfl
theorem typed_c : allM newM [98, 49, 50, 99] = (newM, []) := by rfl
end Go.Proofs.Ytjaimcmnndejgaa
