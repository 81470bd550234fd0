/-
  The contracts of chapter 1's functions over this translation.
-/
import Derived.Test.YtjnfiefnehlgnaaDoorChecked
import Derived.Test.YtjnfiefnehlgnaaDoorMath
import Derived.Test.YtjnfiefnehlgnaaDoorShelf
import Derived.WalkKit
import Derived.ProofKit
import Derived.Handy
import Derived.LoopTactic
import Derived.Laws.IdiomStrings
import Derived.PlainAid
import Derived.Deep.RegionWith
import Derived.Deep.RegionHeld3
import Derived.Laws.DeepStrings4
import Derived.Deep.QuietTactic
import Derived.BigQuiet
import Derived.WalkSmall
import Derived.Deep.AppendLies
import Derived.Deep.RegionLaw
import Derived.Laws.BytesArg
import Derived.Deep.LoopGhost
import Derived.WalkMore
namespace Go.Proofs.YtjnfiefnehlgnaaDoor
open Go.RowKit Plain Go.PlainAid
set_option linter.unusedVariables false

def bytesV (l : List UInt8) : List Value := l.map (fun b => Value.int .u8 (b.toNat : Int))

theorem info5 : (Tryd.prog.info? 5).map (fun i => (i.zero, i.size, i.bytes)) = some (some (.int .u8 0), 1, 1) := by kernel_rfl

theorem own_empty (w : World) : (w.alloc (.cells #[] 5)).ownsRow w.heap.size 5 1 (.slice (some ⟨w.heap.size, 0, none⟩) 0 0) 0 (bytesV []) :=
  ⟨rfl, Or.inr ⟨_, 0, #[], rfl, Nat.le_refl _, by show (w.heap.push _)[w.heap.size]? = _; simp, Nat.le_refl _, by decide, rfl, rfl⟩⟩

theorem one_cell (wr : World) (x : Value) (a : Addr) (ha : a = ⟨wr.heap.size, 0, none⟩) : ∀ j u, [x][j]? = some u → (wr.alloc (.cells #[x] 5)).cell? (a.add j) = some u := by
  intro j u hj
  subst ha
  match j, hj with
  | 0, hj => simp at hj; subst hj; simp [Addr.add]

theorem step_big {m n : Nat} {xs : List UInt8} (h : 127 < m) (H : xs ++ vt m = vt n) : (xs ++ [UInt8.ofNat (m % 128 + 128)]) ++ vt (m / 128) = vt n := by
  rw [← H, vt_big h]; simp

theorem bytes_big (xs : List UInt8) (m : Nat) : bytesV xs ++ [.int .u8 ((m : Int) % 128 + 128)] = bytesV (xs ++ [UInt8.ofNat (m % 128 + 128)]) := by
  simp only [bytesV, List.map_append, List.map_cons, List.map_nil, toNat_big]
  congr 2

theorem bytes_small (xs : List UInt8) {m : Nat} (h : ¬ 127 < m) : bytesV xs ++ [.int .u8 (m : Int)] = bytesV (xs ++ [UInt8.ofNat m]) := by
  simp only [bytesV, List.map_append, List.map_cons, List.map_nil, toNat_small h]

/-- a slice of bytes that is owned, turned into a string -/
theorem own_string {wr : World} {B : Nat} {v : Value} {xs : List UInt8} (h : wr.ownsRow B 5 1 v xs.length (bytesV xs)) (h0 : 0 < xs.length) :
    ∃ g cap, v = .slice (some ⟨g, 0, none⟩) xs.length cap ∧ (convert 22 9 v).run Tryd.prog wr = .ok (.string ⟨xs.toArray⟩) wr := by
  have h' := h
  rcases h.2 with ⟨rfl, e⟩ | ⟨g, cap, cur, rfl, hg, hh, hnc, hcp, hcs, htake⟩
  · omega
  · refine ⟨g, cap, rfl, run_convert_bytes_back (P := Tryd.prog) wr 22 9 5 ⟨g, 0, none⟩ cap xs Tryd.underlying22 Tryd.underlying5 Tryd.underlying9 fun j hj => ?_⟩
    rw [Addr.add_lit, Nat.zero_add, h'.cellAt j (by omega)]
    simp [bytesV, hj]

theorem own_ge {wr : World} {B n : Nat} {v : Value} {xs : List Value} (h : wr.ownsRow B 5 1 v n xs) : ∀ k, v.ownBlock = some k → B ≤ k := by
  intro k hk
  rcases h.2 with ⟨rfl, e⟩ | ⟨g, cap, cur, rfl, hg, _⟩
  · simp [Value.ownBlock] at hk
  · simp [Value.ownBlock] at hk; omega

/-- what an append of one byte leaves -/
theorem rel_step {w wr w1 : World} {v v' x : Value} {xs : List UInt8} (b : UInt8) (hx : x = .int .u8 (b.toNat : Int)) (hnx : Below w.heap.size w wr) (hown : wr.ownsRow w.heap.size 5 1 v xs.length (bytesV xs))
    (hown' : w1.ownsRow w.heap.size 5 1 v' (xs.length + 1) (bytesV xs ++ [x])) (hgrow : (wr.alloc (.cells #[x] 5)).grownBy w1 v.ownBlock) :
    w1.ownsRow w.heap.size 5 1 v' (xs ++ [b]).length (bytesV (xs ++ [b])) ∧ Below w.heap.size w w1 := by
  refine ⟨?_, (hnx.alloc hnx.size _).grown hgrow (by have := hnx.size; simp; omega) (own_ge hown)⟩
  subst hx
  simpa [bytesV] using hown'

set_option maxHeartbeats 400000 in
theorem var10 (n : Nat) (hn : n ≤ 1000000000) (w : World) :
    Calls Tryd.prog 6 #[.int .i64 n] w fun e w' => e = .returned (.tuple #[.string ⟨(vt n).toArray⟩, .bool true]) ∧ Below w.heap.size w w' := by
  obtain ⟨i0, hi, hz0, hz1, hz2⟩ := info_parts info5
  go_enter Tryd.func6, Tryd.ntmps6
  go_wp2
  go_loopw [0, 4] (fun nv v wr => ∃ (m : Nat) (xs : List UInt8), nv = .int .i64 m ∧ m ≤ 1000000000 ∧ xs.length + m ≤ 1000000000 ∧ Hid (xs ++ vt m = vt n) ∧ wr.ownsRow w.heap.size 5 1 v xs.length (bytesV xs) ∧ Below w.heap.size w wr) (fun nv _ _ => (intOf nv).toNat)
  case atStart => exact ⟨n, [], rfl, hn, by simp; omega, (show Hid _ from by simp [Hid]), World.ownsRow_nil _ _ _ _, Below.refl _ _⟩
  case round =>
    obtain ⟨m, xs, rfl, hm, hx, HV, hown, hnx⟩ := hrel
    have hsz := hnx.size
    by_cases hlt : 127 < m
    · go_wp2_with (at_builtin; refine wpList_append_own _ rfl _ _ 22 rfl w.heap.size 5 i0 (.int .u8 0) 1 1 Tryd.underlying22 hi hz0 hz1 hz2 rfl (by decide) _ _ _ rfl (hown.alloc _) ⟨wr.heap.size, 0, none⟩ 1 1 [.int .u8 ((m : Int) % 128 + 128)] rfl rfl ?c1 ?c2 ?c3 ?c4 ?c5 ?_)
      case c1 => exact one_cell wr _ _ rfl
      case c2 => intro u hu; simp at hu; subst hu; rfl
      case c3 => unfold maxLen; omega
      case c4 => omega
      case c5 => simp; omega
      intro v' w1 hown' hgrow _
      have R := rel_step (UInt8.ofNat (m % 128 + 128)) (by rw [toNat_big]; congr 1) hnx hown hown' hgrow
      clear hown' hgrow hown
      go_wp2
      go_roundw
      case rel => exact ⟨m / 128, xs ++ [UInt8.ofNat (m % 128 + 128)], by go_num, by omega, by simp; omega, step_big hlt HV.out, R.1, R.2⟩
      case measure => simp [intOf]; omega
    · go_wp2_with (at_builtin; refine wpList_append_own _ rfl _ _ 22 rfl w.heap.size 5 i0 (.int .u8 0) 1 1 Tryd.underlying22 hi hz0 hz1 hz2 rfl (by decide) _ _ _ rfl (hown.alloc _) ⟨wr.heap.size, 0, none⟩ 1 1 [.int .u8 (m : Int)] rfl rfl ?c1 ?c2 ?c3 ?c4 ?c5 ?_)
      case c1 => exact one_cell wr _ _ rfl
      case c2 => intro u hu; simp at hu; subst hu; rfl
      case c3 => unfold maxLen; omega
      case c4 => omega
      case c5 => simp; omega
      intro v' w1 hown' hgrow _
      have R := rel_step (UInt8.ofNat m) (by rw [toNat_small hlt]) hnx hown hown' hgrow
      rw [show xs ++ [UInt8.ofNat m] = vt n by rw [← vt_small hlt]; exact HV.out] at R
      obtain ⟨g, cap, hv', hcv⟩ := own_string R.1 (vt_pos n)
      have hb := R.2
      clear hown' hgrow hown R HV
      subst hv'
      go_wp2
      go_ret2
      exact ⟨rfl, hb⟩

theorem no10 (n : Int) (h : n < 0 ∨ 1000000000 < n) (h1 : -9223372036854775808 ≤ n) (h2 : n ≤ 9223372036854775807) (w : World) :
    Calls Tryd.prog 6 #[.int .i64 n] w fun e w' => e = .returned (.tuple #[.string ⟨#[]⟩, .bool false]) ∧ Below w.heap.size w w' := by
  rcases h with h | h
  all_goals
    go_enter Tryd.func6, Tryd.ntmps6
    go_wp2
    go_ret2
    exact ⟨rfl, Below.refl _ _⟩
/-- the number N, if its bytes are those of s from a to b -/
def fin (s : ByteArray) (a b : Nat) (N : Int) : Option (Int × Nat) := if N ≤ 1000000000 ∧ vt N.toNat = (s.extract a b).toList then some (N, b) else none

/-- f bytes more are looked at, from k on -/
def rvF (s : ByteArray) (a : Nat) : Nat → Nat → Int → Int → Option (Int × Nat)
  | 0, _, _, _ => none
  | f + 1, k, N, S => if k < s.size then (if bt s k < 128 then fin s a (k + 1) (N + bt s k % 128 * S) else rvF s a f (k + 1) (N + bt s k % 128 * S) (S * 128)) else none

/-- what ReadVar reads -/
def rv (s : ByteArray) (a : Int) : Option (Int × Nat) := if 0 ≤ a ∧ a ≤ s.size then rvF s a.toNat 5 a.toNat 0 1 else none

def enc3 : Option (Int × Nat) → Value
  | none => .tuple #[.int .i64 0, .int .i64 0, .bool false]
  | some (N, b) => .tuple #[.int .i64 N, .int .i64 b, .bool true]

theorem fin_some {s : ByteArray} {a b : Nat} {N M : Int} {c : Nat} (h0 : 0 ≤ N) (h : fin s a b N = some (M, c)) : 0 ≤ M ∧ M ≤ 1000000000 ∧ c = b := by
  unfold fin at h
  split at h
  · simp at h; omega
  · simp at h

theorem rvF_some {s : ByteArray} {a : Nat} : ∀ (f k : Nat) (N S : Int) {M : Int} {c : Nat}, 0 ≤ N → 0 ≤ S → rvF s a f k N S = some (M, c) → 0 ≤ M ∧ M ≤ 1000000000 ∧ k < c ∧ c ≤ s.size
  | 0, k, N, S, M, c, _, _, h => by simp [rvF] at h
  | f + 1, k, N, S, M, c, h0, hS, h => by
    unfold rvF at h
    have hp : 0 ≤ bt s k % 128 * S := Int.mul_nonneg (by omega) hS
    split at h
    · split at h
      · have := fin_some (by omega) h; omega
      · have := rvF_some f (k + 1) _ _ (by omega) (by omega) h; omega
    · simp at h

theorem rv_some {s : ByteArray} {a M : Int} {c : Nat} (h : rv s a = some (M, c)) : 0 ≤ M ∧ M ≤ 1000000000 ∧ c ≤ s.size := by
  unfold rv at h
  split at h
  · have := rvF_some 5 a.toNat 0 1 (by omega) (by omega) h; omega
  · simp at h

/-- what the byte behind j bytes is worth -/
def sc : Nat → Int
  | 0 => 1
  | j + 1 => sc j * 128

theorem sc_pos : ∀ j, 1 ≤ sc j
  | 0 => by simp [sc]
  | j + 1 => by have := sc_pos j; simp only [sc]; omega

theorem sc_le : ∀ j, j < 5 → sc j ≤ 268435456
  | 0, _ => by decide
  | 1, _ => by decide
  | 2, _ => by decide
  | 3, _ => by decide
  | 4, _ => by decide
  | j + 5, h => by omega

theorem sc_five : sc 5 = 34359738368 := by decide

theorem prod_bd (b S : Int) (hS : 1 ≤ S) : 0 ≤ b % 128 * S ∧ b % 128 * S ≤ 127 * S :=
  ⟨Int.mul_nonneg (by omega) (by omega), Int.mul_le_mul_of_nonneg_right (by omega) (by omega)⟩

theorem fin_yes {s : ByteArray} {a b : Nat} {N : Int} (h : N ≤ 1000000000) (e : (vt N.toNat == (s.extract a b).toList) = true) : fin s a b N = some (N, b) := by
  unfold fin; rw [if_pos ⟨h, by simpa using e⟩]

theorem fin_no {s : ByteArray} {a b : Nat} {N : Int} (e : (vt N.toNat == (s.extract a b).toList) = false) : fin s a b N = none := by
  unfold fin; rw [if_neg (fun h => by rw [h.2] at e; simp at e)]

theorem fin_big {s : ByteArray} {a b : Nat} {N : Int} (h : ¬ N ≤ 1000000000) : fin s a b N = none := by
  unfold fin; rw [if_neg (fun h' => h h'.1)]

set_option maxHeartbeats 400000 in
theorem exact23 (N : Int) (s : ByteArray) (a b : Nat) (hs : s.size ≤ 1048576) (hab : a ≤ b) (hb : b ≤ s.size) (h0 : 0 ≤ N) (hN : N ≤ 9223372036854775807) (w : World) :
    Calls Tryd.prog 17 #[.int .i64 N, .string s, .int .i64 a, .int .i64 b] w fun e w' => e = .returned (enc3 (fin s a b N)) ∧ Below w.heap.size w w' := by
  by_cases hle : N ≤ 1000000000
  · obtain ⟨n, rfl⟩ := Int.eq_ofNat_of_zero_le h0
    have hn : n ≤ 1000000000 := by omega
    cases e : vt n == (s.extract a b).toList
    · have H : Hid (fin s a b n = none) := fin_no (by simpa using e)
      go_enter Tryd.func17, Tryd.ntmps17
      go_wp2_with fail
      refine (var10 n hn _).mono ?_
      rintro e w1 ⟨rfl, hb1⟩
      go_wp2
      go_ret3
      exact ⟨by rw [H.out]; rfl, hb1⟩
    · have H : Hid (fin s a b n = some ((n : Int), b)) := fin_yes hle (by simpa using e)
      go_enter Tryd.func17, Tryd.ntmps17
      go_wp2_with fail
      refine (var10 n hn _).mono ?_
      rintro e w1 ⟨rfl, hb1⟩
      go_wp2
      go_ret3
      exact ⟨by rw [H.out]; rfl, hb1⟩
  · have H : Hid (fin s a b N = none) := fin_big hle
    go_enter Tryd.func17, Tryd.ntmps17
    go_wp2_with fail
    refine (no10 N (by omega) (by omega) (by omega) _).mono ?_
    rintro e w1 ⟨rfl, hb1⟩
    go_wp2
    go_ret3
    exact ⟨by rw [H.out]; rfl, hb1⟩
theorem rvF_fin {s : ByteArray} {a f k : Nat} {N S : Int} (h : k < s.size) (h' : bt s k < 128) : rvF s a (f + 1) k N S = fin s a (k + 1) (N + bt s k % 128 * S) := by
  rw [rvF, if_pos h, if_pos h']

theorem rvF_on {s : ByteArray} {a f k : Nat} {N S : Int} (h : k < s.size) (h' : ¬ bt s k < 128) : rvF s a (f + 1) k N S = rvF s a f (k + 1) (N + bt s k % 128 * S) (S * 128) := by
  rw [rvF, if_pos h, if_neg h']

theorem rvF_end {s : ByteArray} {a f k : Nat} {N S : Int} (h : ¬ k < s.size) : rvF s a f k N S = none := by
  cases f with
  | zero => rfl
  | succ f => rw [rvF, if_neg h]

theorem exact23' (N B : Int) (s : ByteArray) (a b : Nat) (hB : B = b) (hs : s.size ≤ 1048576) (hab : a ≤ b) (hb : b ≤ s.size) (h0 : 0 ≤ N) (hN : N ≤ 9223372036854775807) (w : World) :
    Calls Tryd.prog 17 #[.int .i64 N, .string s, .int .i64 a, .int .i64 B] w fun e w' => e = .returned (enc3 (fin s a b N)) ∧ Below w.heap.size w w' := by
  subst hB; exact exact23 N s a b hs hab hb h0 hN w

set_option maxHeartbeats 1000000 in
theorem rv12_in (s : ByteArray) (a : Nat) (hs : s.size ≤ 1048576) (ha : a ≤ s.size) (w : World) :
    Calls Tryd.prog 7 #[.string s, .int .i64 a] w fun e w' => e = .returned (enc3 (rvF s a 5 a 0 1)) ∧ Below w.heap.size w w' := by
  have hbt := get_bt s
  go_enter Tryd.func7, Tryd.ntmps7
  go_wp2
  go_loopw [7, 8, 9] (fun n v i wr => ∃ (N : Int) (j f : Nat), f + j = 5 ∧ a + j ≤ s.size ∧ n = .int .i64 N ∧ v = .int .i64 (sc j) ∧ i = .int .i64 (a + j : Nat) ∧ 0 ≤ N ∧ N < sc j ∧ Hid (rvF s a 5 a 0 1 = rvF s a f (a + j) N (sc j)) ∧ wr = w) (fun _ _ i _ => s.size - (intOf i).toNat)
  case atStart => exact ⟨0, 0, 5, rfl, ha, rfl, rfl, rfl, by decide, by decide, (show Hid _ from rfl), rfl⟩
  case round =>
    obtain ⟨N, j, f, hf, hk, rfl, rfl, rfl, h0, hN, H, rfl⟩ := hrel
    obtain ⟨k, hkk⟩ : ∃ k, k = a + j := ⟨_, rfl⟩
    rw [← hkk] at hk H ⊢
    have ha' : a ≤ k := by omega
    have hsc := sc_pos j
    by_cases h1 : k < s.size
    · have hb0 := bt_nonneg s k
      have hb1 := bt_le s k
      have hP := prod_bd (bt s k) (sc j) hsc
      by_cases h2 : j < 5
      · have hle := sc_le j h2
        obtain ⟨f, rfl⟩ : ∃ f', f = f' + 1 := ⟨f - 1, by omega⟩
        by_cases h3 : bt s k < 128
        · rw [rvF_fin h1 h3] at H
          have H2 : Hid (k = a + j) := hkk
          clear hkk
          go_wp2_with fail
          refine (exact23' (N + bt s k % 128 * sc j) (k + 1) s a (k + 1) (by omega) hs (by omega) (by omega) (by omega) (by omega) _).mono ?_
          rintro e w1 ⟨rfl, hb⟩
          rw [← H.out]
          rcases hR : rvF s a 5 a 0 1 with _ | ⟨M, c⟩
          · have HR : Hid (rvF s a 5 a 0 1 = none) := hR
            clear hR
            simp only [enc3]
            go_wp2
            go_ret3
            exact ⟨by rw [HR.out]; rfl, hb⟩
          · have HR : Hid (rvF s a 5 a 0 1 = some (M, c)) := hR
            clear hR
            simp only [enc3]
            go_wp2
            go_ret3
            exact ⟨by rw [HR.out]; rfl, hb⟩
        · rw [rvF_on h1 h3] at H
          have H2 : Hid (k = a + j) := hkk
          clear hkk
          go_wp2_with fail
          go_roundw
          case rel => exact ⟨N + bt s k % 128 * sc j, j + 1, f, by omega, by have := H2.out; omega, by go_num, by simp [sc], by have := H2.out; go_num, by omega, by simp only [sc]; omega, (by have e := H2.out; rw [show a + (j + 1) = k + 1 by omega]; exact H), trivial⟩
          case measure => simp [intOf]; omega
      · have h5 : j = 5 := by omega
        subst h5
        have hfz : f = 0 := by omega
        subst hfz
        rw [sc_five] at *
        have H2 : Hid (k = a + 5) := hkk
        clear hkk
        go_wp2
        go_ret3
        exact ⟨by rw [H.out]; rfl, Below.refl _ _⟩
    · rw [rvF_end h1] at H
      have H2 : Hid (k = a + j) := hkk
      clear hkk
      go_wp2
      go_ret3
      exact ⟨by rw [H.out]; rfl, Below.refl _ _⟩

theorem rv12 (s : ByteArray) (a : Int) (hs : s.size ≤ 1048576) (w : World) :
    Calls Tryd.prog 7 #[.string s, .int .i64 a] w fun e w' => e = .returned (enc3 (rv s a)) ∧ Below w.heap.size w w' := by
  by_cases h : 0 ≤ a ∧ a ≤ s.size
  · obtain ⟨n, rfl⟩ := Int.eq_ofNat_of_zero_le h.1
    rw [rv, if_pos h]
    exact rv12_in s n hs (by omega) w
  · rw [rv, if_neg h]
    by_cases h1 : a < 0
    · go_enter Tryd.func7, Tryd.ntmps7
      go_wp2
      go_ret3
      exact ⟨rfl, Below.refl _ _⟩
    · have h2 : s.size < a := by omega
      clear h
      go_enter Tryd.func7, Tryd.ntmps7
      go_wp2
      go_ret3
      exact ⟨rfl, Below.refl _ _⟩
theorem vt_size (n : Nat) : (ByteArray.mk (vt n).toArray).size ≤ n + 1 := by
  show (vt n).toArray.size ≤ n + 1
  rw [List.size_toArray]
  exact vt_len n n (Nat.le_refl _)

set_option maxHeartbeats 400000 in
theorem st14 (s : ByteArray) (hs : s.size ≤ 20000) (w : World) :
    Calls Tryd.prog 11 #[.string s] w fun e w' => e = .returned (.tuple #[.string (⟨(vt s.size).toArray⟩ ++ s), .bool true]) ∧ Below w.heap.size w w' := by
  have hsz := vt_size s.size
  go_enter Tryd.func11, Tryd.ntmps11
  go_wp2_with fail
  refine (var10 s.size (by omega) _).mono ?_
  rintro e w1 ⟨rfl, hb⟩
  go_wp2
  go_ret2
  exact ⟨rfl, hb⟩
/-- what ReadShort answers where ReadVar has read r -/
def short (s : ByteArray) : Option (Int × Nat) → Value
  | none => .tuple #[.string ⟨#[]⟩, .int .i64 0, .bool false]
  | some (M, c) => if M ≤ 20000 ∧ M + c ≤ s.size then .tuple #[.string (s.extract c (c + M.toNat)), .int .i64 (c + M), .bool true] else .tuple #[.string ⟨#[]⟩, .int .i64 0, .bool false]

theorem short_yes {s : ByteArray} {m c : Nat} (h : m ≤ 20000) (h' : m + c ≤ s.size) : short s (some ((m : Int), c)) = .tuple #[.string (s.extract c (c + m)), .int .i64 (c + m), .bool true] := by
  simp only [short]; rw [if_pos (by omega)]; rfl

theorem short_no {s : ByteArray} {m c : Nat} (h : ¬ (m ≤ 20000 ∧ m + c ≤ s.size)) : short s (some ((m : Int), c)) = .tuple #[.string ⟨#[]⟩, .int .i64 0, .bool false] := by
  simp only [short]; rw [if_neg (by omega)]

theorem clone24 (s : ByteArray) (w : World) (hs : s.size ≤ 281474976710656) :
    Calls Tryd.prog 23 #[.string s] w fun e w' => e = .returned (.string s) ∧ Below w.heap.size w w' := by
  go_enter Tryd.func23, Tryd.ntmps23
  go_wp2_with fail
  refine (Tryd.stringslite_Clone s _ hs).mono ?_
  rintro e w1 ⟨rfl, hb⟩
  go_wp2
  go_ret
  exact ⟨rfl, hb⟩

set_option maxHeartbeats 400000 in
theorem rs16 (s : ByteArray) (a : Int) (hs : s.size ≤ 1048576) (w : World) :
    Calls Tryd.prog 12 #[.string s, .int .i64 a] w fun e w' => e = .returned (short s (rv s a)) ∧ Below w.heap.size w w' := by
  have K1 : Hid (∀ w, Calls Tryd.prog 7 #[.string s, .int .i64 a] w fun e w' => e = .returned (enc3 (rv s a)) ∧ Below w.heap.size w w') := rv12 s a hs
  rcases hR : rv s a with _ | ⟨M, c⟩
  · rw [hR] at K1
    clear hR
    go_enter Tryd.func12, Tryd.ntmps12
    go_wp2_with fail
    refine (K1.out _).mono ?_
    rintro e w1 ⟨rfl, hb1⟩
    simp only [enc3]
    go_wp2
    go_ret3
    exact ⟨rfl, hb1⟩
  · have hb := rv_some hR
    rw [hR] at K1
    clear hR
    obtain ⟨m, rfl⟩ := Int.eq_ofNat_of_zero_le hb.1
    have hm : m ≤ 1000000000 := by omega
    have hc := hb.2.2
    clear hb
    by_cases h1 : m ≤ 20000
    · by_cases h2 : m + c ≤ s.size
      · have H : Hid (short s (some ((m : Int), c)) = _) := short_yes h1 h2
        go_enter Tryd.func12, Tryd.ntmps12
        go_wp2_with fail
        refine (K1.out _).mono ?_
        rintro e w1 ⟨rfl, hb1⟩
        simp only [enc3]
        go_wp2_with fail
        refine (clone24 _ _ (by rw [ByteArray.size_extract]; omega)).mono ?_
        rintro e w2 ⟨rfl, hb2⟩
        go_wp2
        go_ret3
        exact ⟨by rw [H.out]; rfl, hb1.trans (hb2.mono hb1.size)⟩
      · have H : Hid (short s (some ((m : Int), c)) = _) := short_no (by omega)
        go_enter Tryd.func12, Tryd.ntmps12
        go_wp2_with fail
        refine (K1.out _).mono ?_
        rintro e w1 ⟨rfl, hb1⟩
        simp only [enc3]
        go_wp2
        go_ret3
        exact ⟨by rw [H.out]; rfl, hb1⟩
    · have H : Hid (short s (some ((m : Int), c)) = _) := short_no (by omega)
      go_enter Tryd.func12, Tryd.ntmps12
      go_wp2_with fail
      refine (K1.out _).mono ?_
      rintro e w1 ⟨rfl, hb1⟩
      simp only [enc3]
      go_wp2
      go_ret3
      exact ⟨by rw [H.out]; rfl, hb1⟩
def figs : ByteArray := ⟨#[48, 49, 50, 51, 52, 53, 54, 55, 56, 57, 97, 98, 99, 100, 101, 102]⟩

theorem figs_at : ∀ x : Nat, x < 16 → figs.data[x]? = some (fig x) := by
  intro x h
  obtain rfl | rfl | rfl | rfl | rfl | rfl | rfl | rfl | rfl | rfl | rfl | rfl | rfl | rfl | rfl | rfl : x = 0 ∨ x = 1 ∨ x = 2 ∨ x = 3 ∨ x = 4 ∨ x = 5 ∨ x = 6 ∨ x = 7 ∨ x = 8 ∨ x = 9 ∨ x = 10 ∨ x = 11 ∨ x = 12 ∨ x = 13 ∨ x = 14 ∨ x = 15 := by omega
  all_goals rfl

/-- a figure's byte read out of the text of all figures -/
theorem idx_run (x : Nat) (h : x < 16) (w : World) : (Instr.index 9 (.string ⟨#[48, 49, 50, 51, 52, 53, 54, 55, 56, 57, 97, 98, 99, 100, 101, 102]⟩) (.int .u8 (x : Int))).run Tryd.prog w = .ok (.int .u8 (fig x).toNat) w := by
  have hx : 0 ≤ (x : Int) ∧ (x : Int) < (ByteArray.size ⟨#[48, 49, 50, 51, 52, 53, 54, 55, 56, 57, 97, 98, 99, 100, 101, 102]⟩ : Nat) := ⟨by omega, by show (x : Int) < (16 : Nat); omega⟩
  rw [run_index_string w 9 _ .u8 (x : Int) Tryd.underlying9, dif_pos hx]
  have := figs_at x h
  rw [Array.getElem?_eq_some_iff] at this
  obtain ⟨h1, h2⟩ := this
  congr 3
  rw [← h2]
  rfl

/-- a slice of bytes that is owned, turned into a string: nil or not -/
theorem own_text {wr : World} {B : Nat} {v : Value} {xs : List UInt8} (h : wr.ownsRow B 5 1 v xs.length (bytesV xs)) :
    ∃ a cap, v = .slice a xs.length cap ∧ (convert 22 9 v).run Tryd.prog wr = .ok (.string ⟨xs.toArray⟩) wr := by
  by_cases h0 : 0 < xs.length
  · obtain ⟨g, cap, hv, hr⟩ := own_string h h0
    exact ⟨_, cap, hv, hr⟩
  · obtain rfl : xs = [] := List.length_eq_zero_iff.1 (by omega)
    rcases h.2 with ⟨rfl, e⟩ | ⟨g, cap, cur, rfl, hg, hh, hnc, hcp, hcs, htake⟩
    · exact ⟨none, 0, rfl, run_convert_bytes_nil (P := Tryd.prog) (w := wr) 22 5 Tryd.underlying22 Tryd.underlying5 0 0 9 Tryd.underlying9⟩
    · exact ⟨_, cap, rfl, run_convert_bytes_back (P := Tryd.prog) wr 22 9 5 ⟨g, 0, none⟩ cap [] Tryd.underlying22 Tryd.underlying5 Tryd.underlying9 fun j hj => by simp at hj⟩

/-- what an append of some bytes leaves -/
theorem rel_app {w wr W1 w1 : World} {v v' : Value} {xs bs : List UInt8} {n : Nat} {news : List Value} (hW : Below w.heap.size w W1) (hB : w.heap.size ≤ W1.heap.size) (hown : wr.ownsRow w.heap.size 5 1 v xs.length (bytesV xs))
    (hown' : w1.ownsRow w.heap.size 5 1 v' n (bytesV xs ++ news)) (hgrow : W1.grownBy w1 v.ownBlock) (hn : n = (xs ++ bs).length := by simp) (hnews : news = bytesV bs := by rfl) :
    w1.ownsRow w.heap.size 5 1 v' (xs ++ bs).length (bytesV (xs ++ bs)) ∧ Below w.heap.size w w1 := by
  refine ⟨?_, hW.grown hgrow hB (own_ge hown)⟩
  subst hn hnews
  rw [show bytesV (xs ++ bs) = bytesV xs ++ bytesV bs by simp [bytesV]]
  exact hown'

theorem take_all (s : ByteArray) (k : Nat) (h : ¬ k < s.size) : s.data.toList.take k = s.data.toList :=
  List.take_of_length_le (by rw [Array.length_toList]; show s.size ≤ k; omega)

theorem hex_snoc (s : ByteArray) (k : Nat) (h : k < s.size) : hexL (s.data.toList.take (k + 1)) = hexL (s.data.toList.take k) ++ [fig (s[k].toNat / 16), fig (s[k].toNat % 16)] := by
  rw [← hexL_snoc, List.take_succ_eq_append_getElem (by simpa using h)]; rfl

theorem ix_run (s : ByteArray) (k : Nat) (h : k < s.size) (w : World) : (Instr.index 9 (.string s) (.int .i64 (k : Int))).run Tryd.prog w = .ok (.int .u8 (s[k].toNat : Int)) w := by
  have hx : 0 ≤ (k : Int) ∧ (k : Int) < s.size := by omega
  rw [run_index_string w 9 _ .i64 (k : Int) Tryd.underlying9, dif_pos hx]
  rfl

theorem idx_q (c : Nat) (h : c < 256) (w : World) : (Instr.index 9 (.string ⟨#[48, 49, 50, 51, 52, 53, 54, 55, 56, 57, 97, 98, 99, 100, 101, 102]⟩) (.int .u8 ((c : Int) / 16))).run Tryd.prog w = .ok (.int .u8 (fig (c / 16)).toNat) w := idx_run (c / 16) (by omega) w

theorem idx_r (c : Nat) (h : c < 256) (w : World) : (Instr.index 9 (.string ⟨#[48, 49, 50, 51, 52, 53, 54, 55, 56, 57, 97, 98, 99, 100, 101, 102]⟩) (.int .u8 ((c : Int) % 16))).run Tryd.prog w = .ok (.int .u8 (fig (c % 16)).toNat) w := idx_run (c % 16) (by omega) w

set_option maxHeartbeats 1000000 in
theorem hx18 (s : ByteArray) (hs : s.size ≤ 20000) (w : World) :
    Calls Tryd.prog 13 #[.string s] w fun e w' => e = .returned (.tuple #[.string ⟨(hexL s.data.toList).toArray⟩, .bool true]) ∧ Below w.heap.size w w' := by
  obtain ⟨i0, hi, hz0, hz1, hz2⟩ := info_parts info5
  go_enter Tryd.func13, Tryd.ntmps13
  go_wp2_with (at_make; refine wpList_make_own _ rfl _ _ 22 rfl w.heap.size 5 i0 (.int .u8 0) 1 Tryd.underlying22 hi hz0 hz1 .i64 .i64 _ (2 * s.size) rfl rfl (by omega) (by rw [hz2]; omega) (by unfold maxLen; omega) (Nat.le_refl _) ?_; intro w1 hown hgrow)
  have hb1 : Below w.heap.size w w1 := (Below.refl _ _).grown hgrow (Nat.le_refl _) (fun k h => by cases h)
  clear hgrow
  go_loopw [4, 5] (fun v i wr => ∃ k : Nat, k ≤ s.size ∧ i = .int .i64 k ∧ wr.ownsRow w.heap.size 5 1 v (hexL (s.data.toList.take k)).length (bytesV (hexL (s.data.toList.take k))) ∧ Below w.heap.size w wr) (fun _ i _ => s.size - (intOf i).toNat)
  case atStart => exact ⟨0, Nat.zero_le _, rfl, hown, hb1⟩
  case round =>
    clear hown hb1
    obtain ⟨k, hk, rfl, hown, hnx⟩ := hrel
    have hsz := hnx.size
    have hlen : (hexL (s.data.toList.take k)).length ≤ 40000 := by rw [hexL_len, List.length_take]; omega
    by_cases hlt : k < s.size
    · have hR := hex_snoc s k hlt
      obtain ⟨c, hc⟩ : ∃ c : UInt8, c = s[k] := ⟨_, rfl⟩
      rw [← hc] at hR
      have HR : Hid (hexL (s.data.toList.take (k + 1)) = hexL (s.data.toList.take k) ++ [fig (c.toNat / 16), fig (c.toNat % 16)]) := hR
      have hix := ix_run s k hlt
      rw [← hc] at hix
      have h256 := c.toNat_lt
      generalize hexL (s.data.toList.take k) = xs at *
      clear hc hR
      generalize hcn : c.toNat = cn at *
      have hq := idx_q cn (by omega)
      have hr := idx_r cn (by omega)
      go_wp2
      have hw1 : IntKind.u8.wrap ((cn : Int) / 16) = (cn : Int) / 16 := IntWalk.u8_in _ (by omega)
      have hw2 : (cn : Int).tmod 16 = (cn : Int) % 16 := Int.tmod_eq_emod_of_nonneg (by omega)
      go_region_law (refine step_append_lies _ (by rfl) _ _ _ (by rfl) w.heap.size 5 i0 _ 1 1 Tryd.underlying22 hi hz0 hz1 hz2 rfl (by omega) _ _ _ (by rfl) ((hown.alloc _).drew) ⟨wr.heap.size, 0, none⟩ 2 2 [.int .u8 (fig (cn / 16)).toNat, .int .u8 (fig (cn % 16)).toNat] (by rfl) (by rfl) (World.news_of_block (cs := #[.int .u8 (fig (cn / 16)).toNat, .int .u8 (fig (cn % 16)).toNat]) (t := 5) (fr := (0, 0)) (heap_alloc_new wr _)) (by simp [Value.oneCell']) (by omega) (by unfold maxLen; omega) (by omega) (by simp; omega) (wr.heap.size + 1) (by simp) ?_; intro gg cap w1 hown1 hgrow hat hlt1)
      all_goals
        have R := rel_app (bs := [fig (cn / 16), fig (cn % 16)]) (((hnx.alloc hsz (.cells #[.int .u8 (fig (cn / 16)).toNat, .int .u8 (fig (cn % 16)).toNat] 5))).drew) (by simp; omega) hown hown1 hgrow
        clear hown hown1 hgrow hat hlt1 hq hr hw1 hw2 hix
        go_wp2
        go_roundw
        case rel => exact ⟨k + 1, by omega, by go_num, by rw [HR.out]; exact R.1, R.2⟩
        case measure => simp [intOf]; omega
    · have hks : k = s.size := by omega
      obtain ⟨xs, hxs⟩ : ∃ xs, xs = hexL s.data.toList := ⟨_, rfl⟩
      have e : hexL (s.data.toList.take k) = xs := by rw [hxs, take_all s k hlt]
      rw [e] at hown hlen
      have HX : Hid (xs = hexL s.data.toList) := hxs
      obtain ⟨ao, cap, hv, hcv⟩ := own_text hown
      clear hxs e hks hown
      subst hv
      go_wp2
      go_ret2
      exact ⟨by rw [← HX.out]; rfl, hnx⟩
/-- the number of a figure, or -1 -/
def val (x : Int) : Int := if 48 ≤ x ∧ x ≤ 57 then x - 48 else if 97 ≤ x ∧ x ≤ 102 then x - 97 + 10 else -1

theorem val_bd (x : Int) : -1 ≤ val x ∧ val x ≤ 15 := by
  unfold val; split
  · omega
  · split <;> omega

/-- f pairs of figures from k on -/
def unF (s : ByteArray) : Nat → Nat → Option (List UInt8)
  | 0, _ => some []
  | f + 1, k => if 0 ≤ val (bt s k) ∧ 0 ≤ val (bt s (k + 1)) then (unF s f (k + 2)).map (fun l => UInt8.ofNat (16 * val (bt s k) + val (bt s (k + 1))).toNat :: l) else none

def encU : Option (List UInt8) → Value
  | none => .tuple #[.string ⟨#[]⟩, .bool false]
  | some l => .tuple #[.string ⟨l.toArray⟩, .bool true]

theorem un_step {s : ByteArray} {f k : Nat} {xs : List UInt8} {r : Option (List UInt8)} (h : 0 ≤ val (bt s k)) (h' : 0 ≤ val (bt s (k + 1))) (H : r = (unF s (f + 1) k).map (fun l => xs ++ l)) :
    r = (unF s f (k + 2)).map (fun l => (xs ++ [UInt8.ofNat (16 * val (bt s k) + val (bt s (k + 1))).toNat]) ++ l) := by
  rw [H, unF, if_pos ⟨h, h'⟩]
  cases unF s f (k + 2) <;> simp

theorem un_bad {s : ByteArray} {f k : Nat} {xs : List UInt8} {r : Option (List UInt8)} (h : ¬ (0 ≤ val (bt s k) ∧ 0 ≤ val (bt s (k + 1)))) (H : r = (unF s (f + 1) k).map (fun l => xs ++ l)) : r = none := by
  rw [H, unF, if_neg h]; rfl

theorem un_end {s : ByteArray} {k : Nat} {xs : List UInt8} {r : Option (List UInt8)} (H : r = (unF s 0 k).map (fun l => xs ++ l)) : r = some xs := by
  rw [H, unF]; simp

theorem byte_of {a b : Int} (h0 : 0 ≤ a) (h1 : a ≤ 15) (h2 : 0 ≤ b) (h3 : b ≤ 15) : ((UInt8.ofNat (16 * a + b).toNat).toNat : Int) = 16 * a + b := by
  rw [UInt8.toNat_ofNat']; omega
theorem idx_all : ∀ n : Nat, n < 256 → Lib.indexByte [48, 49, 50, 51, 52, 53, 54, 55, 56, 57, 97, 98, 99, 100, 101, 102] (UInt8.ofNat n) = val (n : Int) := by
  decide +kernel

theorem idx_val (x : Int) (h0 : 0 ≤ x) (h1 : x ≤ 255) : Lib.indexByte [48, 49, 50, 51, 52, 53, 54, 55, 56, 57, 97, 98, 99, 100, 101, 102] x.toNat.toUInt8 = val x := by
  obtain ⟨n, rfl⟩ := Int.eq_ofNat_of_zero_le h0
  exact idx_all n (by omega)

theorem ib27 (x : Int) (h0 : 0 ≤ x) (h1 : x ≤ 255) (w : World) :
    Calls Tryd.prog 24 #[.string ⟨#[48, 49, 50, 51, 52, 53, 54, 55, 56, 57, 97, 98, 99, 100, 101, 102]⟩, .int .u8 x] w fun e w' => e = .returned (.int .i64 (val x)) ∧ w' = w := by
  have h := Tryd.strings_IndexByte ⟨#[48, 49, 50, 51, 52, 53, 54, 55, 56, 57, 97, 98, 99, 100, 101, 102]⟩ x w
  rw [← idx_val x h0 h1]
  exact h

set_option maxHeartbeats 1000000 in
theorem un20 (s : ByteArray) (hs : s.size ≤ 40000) (he : s.size % 2 = 0) (w : World) :
    Calls Tryd.prog 14 #[.string s] w fun e w' => e = .returned (encU (unF s (s.size / 2) 0)) ∧ Below w.heap.size w w' := by
  obtain ⟨i0, hi, hz0, hz1, hz2⟩ := info_parts info5
  have hbt := get_bt s
  have he' : ((s.size : Int) % 2 != 0) = false := by simp; omega
  go_enter Tryd.func14, Tryd.ntmps14
  go_wp2
  go_step3
  go_wp2_with (at_make; refine wpList_make_own _ rfl _ _ 22 rfl w.heap.size 5 i0 (.int .u8 0) 1 Tryd.underlying22 hi hz0 hz1 .i64 .i64 _ (s.size / 2) rfl rfl (by omega) (by rw [hz2]; omega) (by unfold maxLen; omega) (Nat.le_refl _) ?_; intro w1 hown hgrow)
  go_step3
  go_wp2
  have hb1 : Below w.heap.size w w1 := (Below.refl _ _).grown hgrow (Nat.le_refl _) (fun k h => by cases h)
  clear hgrow
  go_loopw [4, 5] (fun v i wr => ∃ (f k : Nat) (xs : List UInt8), k + 2 * f = s.size ∧ i = .int .i64 k ∧ 2 * xs.length = k ∧ Hid (unF s (s.size / 2) 0 = (unF s f k).map (fun l => xs ++ l)) ∧ wr.ownsRow w.heap.size 5 1 v xs.length (bytesV xs) ∧ Below w.heap.size w wr) (fun _ i _ => s.size - (intOf i).toNat)
  case atStart => exact ⟨s.size / 2, 0, [], by omega, rfl, rfl, (show Hid _ from by simp [Hid]), hown, hb1⟩
  case round =>
    clear hown hb1
    obtain ⟨f, k, xs, hf, rfl, hl, H, hown, hnx⟩ := hrel
    have hsz := hnx.size
    cases f with
    | zero =>
      have hk : ¬ k < s.size := by omega
      have hne : (2 * (xs.length : Int) != (s.size : Int)) = false := by simp; omega
      have H' : Hid (unF s (s.size / 2) 0 = some xs) := un_end H.out
      obtain ⟨ao, cap, hv, hcv⟩ := own_text hown
      have hlx : xs.length ≤ 40000 := by omega
      clear H hown hf hl
      subst hv
      go_wp2
      rw [Exit.noGoto_ret]
      go_ret2
      exact ⟨by rw [H'.out]; rfl, hnx⟩
    | succ f =>
      have hk : k + 1 < s.size := by omega
      have b0 := bt_nonneg s k
      have b1 := bt_le s k
      have c0 := bt_nonneg s (k + 1)
      have c1 := bt_le s (k + 1)
      have v0 := val_bd (bt s k)
      have v1 := val_bd (bt s (k + 1))
      by_cases h1 : 0 ≤ val (bt s k)
      · by_cases h2 : 0 ≤ val (bt s (k + 1))
        · have H' : Hid _ := un_step h1 h2 H.out
          clear H
          go_wp2
          refine wp_loop_rounds 3 ?_
          rw [rounds_succ]
          go_wp2_with fail
          refine (ib27 _ b0 b1 _).mono ?_
          rintro e w2 ⟨rfl, rfl⟩
          go_wp2_with fail
          rw [rounds_succ]
          go_wp2_with fail
          refine (ib27 _ c0 c1 _).mono ?_
          rintro e w3 ⟨rfl, rfl⟩
          go_wp2_with fail
          rw [rounds_succ]
          go_wp2_with (at_builtin; refine wpList_append_own _ rfl _ _ 22 rfl w.heap.size 5 i0 (.int .u8 0) 1 1 Tryd.underlying22 hi hz0 hz1 hz2 rfl (by decide) _ _ _ rfl (hown.alloc _) ⟨w3.heap.size, 0, none⟩ 1 1 [.int .u8 (val (bt s k) * 16 + val (bt s (k + 1)))] rfl rfl ?c1 ?c2 ?c3 ?c4 ?c5 ?_)
          case c1 => exact one_cell w3 _ _ rfl
          case c2 => intro u hu; simp at hu; subst hu; rfl
          case c3 => unfold maxLen; omega
          case c4 => omega
          case c5 => simp; omega
          intro v' w1 hown' hgrow _
          have R := rel_step (UInt8.ofNat (16 * val (bt s k) + val (bt s (k + 1))).toNat) (by rw [byte_of h1 v0.2 h2 v1.2, Int.mul_comm]) hnx hown hown' hgrow
          clear hown' hgrow hown
          go_wp2
          go_roundw
          case rel => exact ⟨f, k + 2, xs ++ [UInt8.ofNat (16 * val (bt s k) + val (bt s (k + 1))).toNat], by omega, by go_num, by simp; omega, H', R.1, R.2⟩
          case measure => simp [intOf]; omega
        · have H' : Hid (unF s (s.size / 2) 0 = none) := un_bad (by omega) H.out
          have hne : (2 * (xs.length : Int) != (s.size : Int)) = true := by simp; omega
          obtain ⟨ao, cap, hv, hcv⟩ := own_text hown
          have hlx : xs.length ≤ 40000 := by omega
          clear H hown hf hl hcv
          subst hv
          go_wp2
          refine wp_loop_rounds 3 ?_
          rw [rounds_succ]
          go_wp2_with fail
          refine (ib27 _ b0 b1 _).mono ?_
          rintro e w2 ⟨rfl, rfl⟩
          go_wp2_with fail
          rw [rounds_succ]
          go_wp2_with fail
          refine (ib27 _ c0 c1 _).mono ?_
          rintro e w3 ⟨rfl, rfl⟩
          go_wp2
          rw [Exit.noGoto_ret]
          go_ret2
          exact ⟨by rw [H'.out]; rfl, hnx⟩
      · have H' : Hid (unF s (s.size / 2) 0 = none) := un_bad (by omega) H.out
        have hne : (2 * (xs.length : Int) != (s.size : Int)) = true := by simp; omega
        obtain ⟨ao, cap, hv, hcv⟩ := own_text hown
        have hlx : xs.length ≤ 40000 := by omega
        clear H hown hf hl hcv
        subst hv
        go_wp2
        refine wp_loop_rounds 3 ?_
        rw [rounds_succ]
        go_wp2_with fail
        refine (ib27 _ b0 b1 _).mono ?_
        rintro e w2 ⟨rfl, rfl⟩
        go_wp2
        rw [Exit.noGoto_ret]
        go_ret2
        exact ⟨by rw [H'.out]; rfl, hnx⟩
end Go.Proofs.YtjnfiefnehlgnaaDoor
