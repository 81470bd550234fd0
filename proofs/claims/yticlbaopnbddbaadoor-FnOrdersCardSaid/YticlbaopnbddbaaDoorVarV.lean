/-
  The contracts of the functions that write a number in bytes.
-/
import Derived.Test.YticlbaopnbddbaaDoorMathV
import Derived.LoopTactic
import Derived.Laws.IdiomStrings
namespace Go.Proofs.YticlbaopnbddbaaDoor.V
open Go.RowKit Plain
set_option linter.unusedVariables false

def bytesV (l : List UInt8) : List Value := l.map (fun b => Value.int .u8 (b.toNat : Int))

theorem info5 : (Tryd.prog.info? 5).map (fun i => (i.zero, i.size, i.bytes)) = some (some (.int .u8 0), 1, 1) := by kernel_rfl

theorem own_empty (w : World) : (w.alloc (.cells #[] 5)).ownsRow w.heap.size 5 1 (.slice (some ⟨w.heap.size, 0, none⟩) 0 0) 0 (bytesV []) :=
  ⟨rfl, Or.inr ⟨_, 0, #[], rfl, Nat.le_refl _, by show (w.heap.push _)[w.heap.size]? = _; simp, Nat.le_refl _, by decide, rfl, rfl⟩⟩

theorem one_cell (wr : World) (x : Value) (a : Addr) (ha : a = ⟨wr.heap.size, 0, none⟩) : ∀ j u, [x][j]? = some u → (wr.alloc (.cells #[x] 5)).cell? (a.add j) = some u := by
  intro j u hj
  subst ha
  match j, hj with
  | 0, hj => simp at hj; subst hj; simp [Addr.add]

theorem step_big {m n : Nat} {xs : List UInt8} (h : 127 < m) (H : xs ++ vt m = vt n) : (xs ++ [UInt8.ofNat (m % 128 + 128)]) ++ vt (m / 128) = vt n := by
  rw [← H, vt_big h]; simp
theorem bytes_big (xs : List UInt8) (m : Nat) : bytesV xs ++ [.int .u8 ((m : Int) % 128 + 128)] = bytesV (xs ++ [UInt8.ofNat (m % 128 + 128)]) := by
  simp only [bytesV, List.map_append, List.map_cons, List.map_nil, toNat_big]
  congr 2
theorem bytes_small (xs : List UInt8) {m : Nat} (h : ¬ 127 < m) : bytesV xs ++ [.int .u8 (m : Int)] = bytesV (xs ++ [UInt8.ofNat m]) := by
  simp only [bytesV, List.map_append, List.map_cons, List.map_nil, toNat_small h]

/-- a slice of bytes that is owned, turned into a string -/
theorem own_string {wr : World} {B : Nat} {v : Value} {xs : List UInt8} (h : wr.ownsRow B 5 1 v xs.length (bytesV xs)) (h0 : 0 < xs.length) :
    ∃ g cap, v = .slice (some ⟨g, 0, none⟩) xs.length cap ∧ (convert 22 9 v).run Tryd.prog wr = .ok (.string ⟨xs.toArray⟩) wr := by
  have h' := h
  rcases h.2 with ⟨rfl, e⟩ | ⟨g, cap, cur, rfl, hg, hh, hnc, hcp, hcs, htake⟩
  · omega
  · refine ⟨g, cap, rfl, run_convert_bytes_back (P := Tryd.prog) wr 22 9 5 ⟨g, 0, none⟩ cap xs Tryd.underlying22 Tryd.underlying5 Tryd.underlying9 fun j hj => ?_⟩
    rw [Addr.add_lit, Nat.zero_add, h'.cellAt j (by omega)]
    simp [bytesV, hj]

theorem own_ge {wr : World} {B n : Nat} {v : Value} {xs : List Value} (h : wr.ownsRow B 5 1 v n xs) : ∀ k, v.ownBlock = some k → B ≤ k := by
  intro k hk
  rcases h.2 with ⟨rfl, e⟩ | ⟨g, cap, cur, rfl, hg, _⟩
  · simp [Value.ownBlock] at hk
  · simp [Value.ownBlock] at hk; omega

/-- what an append of one byte leaves -/
theorem rel_step {w wr w1 : World} {v v' x : Value} {xs : List UInt8} (b : UInt8) (hx : x = .int .u8 (b.toNat : Int)) (hnx : Below w.heap.size w wr) (hown : wr.ownsRow w.heap.size 5 1 v xs.length (bytesV xs))
    (hown' : w1.ownsRow w.heap.size 5 1 v' (xs.length + 1) (bytesV xs ++ [x])) (hgrow : (wr.alloc (.cells #[x] 5)).grownBy w1 v.ownBlock) :
    w1.ownsRow w.heap.size 5 1 v' (xs ++ [b]).length (bytesV (xs ++ [b])) ∧ Below w.heap.size w w1 := by
  refine ⟨?_, (hnx.alloc hnx.size _).grown hgrow (by have := hnx.size; simp; omega) (own_ge hown)⟩
  subst hx
  simpa [bytesV] using hown'

set_option maxRecDepth 100000 in
set_option maxHeartbeats 400000 in
theorem var22 (n : Nat) (hn : n ≤ 1000000000) (w : World) :
    Calls Tryd.prog 35 #[.int .i64 n] w fun e w' => e = .returned (.string ⟨(vt n).toArray⟩) ∧ Below w.heap.size w w' := by
  obtain ⟨i0, hi, hz0, hz1, hz2⟩ := info_parts info5
  have how := own_empty w
  go_enter Tryd.func35, Tryd.ntmps35
  go_wp2
  go_loopw [0, 3] (fun nv v wr => ∃ (m : Nat) (xs : List UInt8), nv = .int .i64 m ∧ m ≤ 1000000000 ∧ xs.length + m ≤ 1000000000 ∧ Hid (xs ++ vt m = vt n) ∧ wr.ownsRow w.heap.size 5 1 v xs.length (bytesV xs) ∧ Below w.heap.size w wr) (fun nv _ _ => (intOf nv).toNat)
  case atStart => exact ⟨n, [], rfl, hn, by simp; omega, (show Hid _ from by simp [Hid]), how, (Below.refl _ _).alloc (Nat.le_refl _) _⟩
  case round =>
    obtain ⟨m, xs, rfl, hm, hx, HV, hown, hnx⟩ := hrel
    have hsz := hnx.size
    by_cases hlt : 127 < m
    · go_wp2_with (at_builtin; refine wpList_append_own _ rfl _ _ 22 rfl w.heap.size 5 i0 (.int .u8 0) 1 1 Tryd.underlying22 hi hz0 hz1 hz2 rfl (by decide) _ _ _ rfl (hown.alloc _) ⟨wr.heap.size, 0, none⟩ 1 1 [.int .u8 ((m : Int) % 128 + 128)] rfl rfl ?c1 ?c2 ?c3 ?c4 ?c5 ?_)
      case c1 => exact one_cell wr _ _ rfl
      case c2 => intro u hu; simp at hu; subst hu; rfl
      case c3 => unfold maxLen; omega
      case c4 => omega
      case c5 => simp; omega
      intro v' w1 hown' hgrow _
      have R := rel_step (UInt8.ofNat (m % 128 + 128)) (by rw [toNat_big]; congr 1) hnx hown hown' hgrow
      clear hown' hgrow hown how
      go_wp2
      go_roundw
      case rel => exact ⟨m / 128, xs ++ [UInt8.ofNat (m % 128 + 128)], by go_num, by omega, by simp; omega, step_big hlt HV.out, R.1, R.2⟩
      case measure => simp [intOf]; omega
    · go_wp2_with (at_builtin; refine wpList_append_own _ rfl _ _ 22 rfl w.heap.size 5 i0 (.int .u8 0) 1 1 Tryd.underlying22 hi hz0 hz1 hz2 rfl (by decide) _ _ _ rfl (hown.alloc _) ⟨wr.heap.size, 0, none⟩ 1 1 [.int .u8 (m : Int)] rfl rfl ?c1 ?c2 ?c3 ?c4 ?c5 ?_)
      case c1 => exact one_cell wr _ _ rfl
      case c2 => intro u hu; simp at hu; subst hu; rfl
      case c3 => unfold maxLen; omega
      case c4 => omega
      case c5 => simp; omega
      intro v' w1 hown' hgrow _
      have R := rel_step (UInt8.ofNat m) (by rw [toNat_small hlt]) hnx hown hown' hgrow
      rw [show xs ++ [UInt8.ofNat m] = vt n by rw [← vt_small hlt]; exact HV.out] at R
      obtain ⟨g, cap, hv', hcv⟩ := own_string R.1 (vt_pos n)
      have hb := R.2
      clear hown' hgrow hown how R HV
      subst hv'
      go_wp2
      go_ret
      exact ⟨rfl, hb⟩

set_option maxRecDepth 100000 in
set_option maxHeartbeats 400000 in
theorem var10 (n : Nat) (hn : n ≤ 1000000000) (w : World) :
    Calls Tryd.prog 21 #[.int .i64 n] w fun e w' => e = .returned (.tuple #[.string ⟨(vt n).toArray⟩, .bool true]) ∧ Below w.heap.size w w' := by
  obtain ⟨i0, hi, hz0, hz1, hz2⟩ := info_parts info5
  go_enter Tryd.func21, Tryd.ntmps21
  go_wp2
  go_loopw [0, 4] (fun nv v wr => ∃ (m : Nat) (xs : List UInt8), nv = .int .i64 m ∧ m ≤ 1000000000 ∧ xs.length + m ≤ 1000000000 ∧ Hid (xs ++ vt m = vt n) ∧ wr.ownsRow w.heap.size 5 1 v xs.length (bytesV xs) ∧ Below w.heap.size w wr) (fun nv _ _ => (intOf nv).toNat)
  case atStart => exact ⟨n, [], rfl, hn, by simp; omega, (show Hid _ from by simp [Hid]), World.ownsRow_nil _ _ _ _, Below.refl _ _⟩
  case round =>
    obtain ⟨m, xs, rfl, hm, hx, HV, hown, hnx⟩ := hrel
    have hsz := hnx.size
    by_cases hlt : 127 < m
    · go_wp2_with (at_builtin; refine wpList_append_own _ rfl _ _ 22 rfl w.heap.size 5 i0 (.int .u8 0) 1 1 Tryd.underlying22 hi hz0 hz1 hz2 rfl (by decide) _ _ _ rfl (hown.alloc _) ⟨wr.heap.size, 0, none⟩ 1 1 [.int .u8 ((m : Int) % 128 + 128)] rfl rfl ?c1 ?c2 ?c3 ?c4 ?c5 ?_)
      case c1 => exact one_cell wr _ _ rfl
      case c2 => intro u hu; simp at hu; subst hu; rfl
      case c3 => unfold maxLen; omega
      case c4 => omega
      case c5 => simp; omega
      intro v' w1 hown' hgrow _
      have R := rel_step (UInt8.ofNat (m % 128 + 128)) (by rw [toNat_big]; congr 1) hnx hown hown' hgrow
      clear hown' hgrow hown
      go_wp2
      go_roundw
      case rel => exact ⟨m / 128, xs ++ [UInt8.ofNat (m % 128 + 128)], by go_num, by omega, by simp; omega, step_big hlt HV.out, R.1, R.2⟩
      case measure => simp [intOf]; omega
    · go_wp2_with (at_builtin; refine wpList_append_own _ rfl _ _ 22 rfl w.heap.size 5 i0 (.int .u8 0) 1 1 Tryd.underlying22 hi hz0 hz1 hz2 rfl (by decide) _ _ _ rfl (hown.alloc _) ⟨wr.heap.size, 0, none⟩ 1 1 [.int .u8 (m : Int)] rfl rfl ?c1 ?c2 ?c3 ?c4 ?c5 ?_)
      case c1 => exact one_cell wr _ _ rfl
      case c2 => intro u hu; simp at hu; subst hu; rfl
      case c3 => unfold maxLen; omega
      case c4 => omega
      case c5 => simp; omega
      intro v' w1 hown' hgrow _
      have R := rel_step (UInt8.ofNat m) (by rw [toNat_small hlt]) hnx hown hown' hgrow
      rw [show xs ++ [UInt8.ofNat m] = vt n by rw [← vt_small hlt]; exact HV.out] at R
      obtain ⟨g, cap, hv', hcv⟩ := own_string R.1 (vt_pos n)
      have hb := R.2
      clear hown' hgrow hown R HV
      subst hv'
      go_wp2
      go_ret2
      exact ⟨rfl, hb⟩

theorem no10 (n : Int) (h : n < 0 ∨ 1000000000 < n) (h1 : -9223372036854775808 ≤ n) (h2 : n ≤ 9223372036854775807) (w : World) :
    Calls Tryd.prog 21 #[.int .i64 n] w fun e w' => e = .returned (.tuple #[.string ⟨#[]⟩, .bool false]) ∧ Below w.heap.size w w' := by
  rcases h with h | h
  all_goals
    go_enter Tryd.func21, Tryd.ntmps21
    go_wp2
    go_ret2
    exact ⟨rfl, Below.refl _ _⟩

theorem in21 (x a b : Int) (w : World) :
    Calls Tryd.prog 25 #[.int .i64 x, .int .i64 a, .int .i64 b] w fun e w' => e = .returned (.bool (decide (a ≤ x ∧ x ≤ b))) ∧ w' = w := by
  by_cases h1 : a ≤ x
  · by_cases h2 : x ≤ b
    · rw [decide_eq_true ⟨h1, h2⟩]
      go_enter Tryd.func25, Tryd.ntmps25
      go_wp2
      go_ret
      exact ⟨by simp, rfl⟩
    · rw [decide_eq_false (by omega)]
      go_enter Tryd.func25, Tryd.ntmps25
      go_wp2
      go_ret
      exact ⟨by simp, rfl⟩
  · rw [decide_eq_false (by omega)]
    go_enter Tryd.func25, Tryd.ntmps25
    go_wp2
    go_ret
    exact ⟨rfl, rfl⟩

end Go.Proofs.YticlbaopnbddbaaDoor.V
