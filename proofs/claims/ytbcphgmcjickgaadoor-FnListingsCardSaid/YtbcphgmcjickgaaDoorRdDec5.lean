/-
  The contracts of ReadDecimal, the specification's and the program's.
-/
import Derived.Test.YtbcphgmcjickgaaDoorDMath2
import Derived.Test.YtbcphgmcjickgaaDoorTabs
import Derived.PlainAid
import Derived.WalkMore
namespace Go.Proofs.YtbcphgmcjickgaaDoor
open Go.RowKit Plain Go.PlainAid
open Go.Lib (decDigits itoa)
set_option linter.unusedVariables false

def encR : Option Nat → Value
  | none => .tuple #[.int .i64 0, .bool false]
  | some n => .tuple #[.int .i64 n, .bool true]

/-- what the first k bytes are worth -/
def fo (s : ByteArray) (k : Nat) : Int := foG 0 (s.data.toList.take k)
theorem fo_zero (s : ByteArray) : fo s 0 = 0 := rfl
theorem fo_succ (s : ByteArray) (k : Nat) (h : k < s.size) : fo s (k + 1) = 10 * fo s k + bt s k - 48 := by
  unfold fo
  rw [List.take_succ_eq_append_getElem (by simpa using h), foG_snoc, ← get_bt s k h]
  rfl
theorem fo_all (s : ByteArray) (k : Nat) (h : ¬ k < s.size) : fo s k = foG 0 s.data.toList := by
  unfold fo
  rw [List.take_of_length_le (by rw [Array.length_toList]; show s.size ≤ k; omega)]
theorem bt_list (s : ByteArray) (k : Nat) (h : k < s.size) (hk : k < s.data.toList.length) : (s.data.toList[k].toNat : Int) = bt s k := by
  rw [← get_bt s k h]
  rfl

/-- a text that has a byte that is no figure is no numeral -/
theorem no_byte (s : ByteArray) (k : Nat) (h : k < s.size) (hb : bt s k < 48 ∨ 57 < bt s k) (m : Nat) : decDigits m ≠ s.data.toList := fun e => by
  have hk : k < s.data.toList.length := by rw [Array.length_toList]; exact h
  have := dec_byte e k hk
  rw [bt_list s k h hk] at this
  omega
/-- a text a beginning of which is worth too much is no numeral -/
theorem no_big (s : ByteArray) (k : Nat) (h : 1000000000 < fo s k) (m : Nat) (hm : m ≤ 1000000000) : decDigits m ≠ s.data.toList := fun e => by
  have := (dec_take e k).2
  unfold fo at h
  omega
theorem no_long (s : ByteArray) (h : 10 < s.size) (m : Nat) (hm : m ≤ 1000000000) : decDigits m ≠ s.data.toList := fun e => by
  have := dec_len10 hm
  rw [e, Array.length_toList] at this
  have : s.size ≤ 10 := this
  omega

/-- behind the loop: n is held against the text -/
def Knows (s : ByteArray) (n : Int) : Prop := 0 ≤ n ∧ ∀ m : Nat, m ≤ 1000000000 → decDigits m = s.data.toList → (m : Int) = n
theorem rd_yes {s : ByteArray} {n : Nat} (h : n ≤ 1000000000) (e : (decDigits n == s.toList) = true) : Rd s.data.toList (some n) := by
  refine ⟨fun n' h' => ?_, fun h' => ?_⟩
  · cases h'
    exact ⟨h, by simpa [ByteArray.toList_eq] using e⟩
  · cases h'
theorem rd_none {s : ByteArray} (h : ∀ m, m ≤ 1000000000 → decDigits m ≠ s.data.toList) : Rd s.data.toList none := by
  refine ⟨fun n' h' => ?_, fun _ => h⟩
  cases h'
theorem rd_no {s : ByteArray} {n : Nat} (hk : Knows s n) (e : (decDigits n == s.toList) = false) : Rd s.data.toList none := by
  refine rd_none fun m hm h => ?_
  have h1 := hk.2 m hm h
  have : m = n := by omega
  subst this
  rw [h, ByteArray.toList_eq] at e
  simp at e
theorem rd_big {s : ByteArray} {n : Int} (hk : Knows s n) (h : 1000000000 < n) : Rd s.data.toList none :=
  rd_none fun m hm e => by have := hk.2 m hm e; omega
theorem knows_end {s : ByteArray} {k : Nat} (h : ¬ k < s.size) (h0 : 0 ≤ fo s k) : Knows s (fo s k) :=
  ⟨h0, fun m hm e => by rw [fo_all s k h, dec_fo e]⟩
theorem knows_none {s : ByteArray} {n : Int} (h0 : 0 ≤ n) (h : ∀ m, m ≤ 1000000000 → decDigits m ≠ s.data.toList) : Knows s n :=
  ⟨h0, fun m hm e => absurd e (h m hm)⟩

def p10 : Nat → Int
  | 0 => 1
  | k + 1 => 10 * p10 k
theorem p10_le : ∀ k, k ≤ 10 → 1 ≤ p10 k ∧ p10 k ≤ 10000000000 := by decide +kernel

theorem dec5n (n : Nat) (hn : n ≤ 1000000000) (w : World) :
    Calls Tryd.prog 33 #[.int .i64 n] w fun e w' => e = .returned (.string ⟨(decDigits n).toArray⟩) ∧ Below w.heap.size w w' := by
  rw [← itoa_pos]; exact dec5 n (by omega) (by omega) w
theorem dec6n (n : Nat) (hn : n ≤ 1000000000) (w : World) (ht : Tab w) :
    Calls Tryd.prog 30 #[.int .i64 n] w fun e w' => e = .returned (.string ⟨(decDigits n).toArray⟩) ∧ Below w.heap.size w w' := by
  rw [← itoa_pos]; exact dec6 n (by omega) (by omega) w ht

set_option maxRecDepth 100000 in
set_option maxHeartbeats 1000000 in
theorem rd7 (s : ByteArray) (hs : s.size ≤ 1048576) (w : World) :
    Calls Tryd.prog 62 #[.string s] w fun e w' => ∃ r, e = .returned (encR r) ∧ Rd s.data.toList r ∧ Below w.heap.size w w' := by
  by_cases hl : 10 < s.size
  · have H : Hid (Rd s.data.toList none) := rd_none (no_long s hl)
    go_enter Tryd.func62, Tryd.ntmps62
    go_wp2
    go_ret2
    exact ⟨none, rfl, H.out, Below.refl _ _⟩
  · have hbt := get_bt s
    go_enter Tryd.func62, Tryd.ntmps62
    go_wp2
    go_loopw [4, 5] (fun n i wr => ∃ k : Nat, k ≤ s.size ∧ n = .int .i64 (fo s k) ∧ i = .int .i64 k ∧ 0 ≤ fo s k ∧ fo s k < p10 k ∧ wr = w) (fun _ i _ => s.size - (intOf i).toNat)
    case atStart => exact ⟨0, Nat.zero_le _, rfl, rfl, by rw [fo_zero]; decide, by rw [fo_zero]; decide, rfl⟩
    case round =>
      obtain ⟨k, hk, rfl, rfl, h0, h1, rfl⟩ := hrel
      have hp := p10_le k (by omega)
      by_cases hlt : k < s.size
      · have hf := fo_succ s k hlt
        have HF : Hid (fo s (k + 1) = 10 * fo s k + bt s k - 48) := hf
        have b0 := bt_nonneg s k
        have b1 := bt_le s k
        clear hf
        by_cases hd : bt s k < 48
        · have H : Hid (Rd s.data.toList none) := rd_none fun m _ => no_byte s k hlt (.inl hd) m
          go_wp2
          go_ret2
          exact ⟨none, rfl, H.out, Below.refl _ _⟩
        · by_cases hd2 : 57 < bt s k
          · have H : Hid (Rd s.data.toList none) := rd_none fun m _ => no_byte s k hlt (.inr hd2) m
            go_wp2
            go_ret2
            exact ⟨none, rfl, H.out, Below.refl _ _⟩
          · go_wp2
            go_roundw
            case rel => exact ⟨k + 1, by omega, by rw [HF.out], by go_num, by rw [HF.out]; omega, by rw [HF.out]; simp only [p10]; omega, trivial⟩
            case measure => simp [intOf]; omega
      · have HK : Hid (Knows s (fo s k)) := knows_end hlt h0
        obtain ⟨n, hn⟩ := Int.eq_ofNat_of_zero_le h0
        rw [hn] at HK h1 ⊢
        have hn2 : (n : Int) ≤ 10000000000 := by omega
        clear hn h0 h1 hp
        by_cases hb : 1000000000 < (n : Int)
        · have H : Hid (Rd s.data.toList none) := rd_big HK.out hb
          go_wp2
          go_ret2
          exact ⟨none, rfl, H.out, Below.refl _ _⟩
        · cases e : decDigits n == s.toList
          · have H : Hid (Rd s.data.toList none) := rd_no HK.out e
            go_wp2_with fail
            refine (dec5n n (by omega) _).mono ?_
            rintro e w1 ⟨rfl, hb1⟩
            go_wp2
            go_ret2
            exact ⟨none, rfl, H.out, hb1⟩
          · have H : Hid (Rd s.data.toList (some n)) := rd_yes (by omega) e
            go_wp2_with fail
            refine (dec5n n (by omega) _).mono ?_
            rintro e w1 ⟨rfl, hb1⟩
            go_wp2
            go_ret2
            exact ⟨some n, rfl, H.out, hb1⟩

set_option maxRecDepth 100000 in
set_option maxHeartbeats 1000000 in
theorem rd8 (s : ByteArray) (hs : s.size ≤ 1048576) (w : World) (ht : Tab w) :
    Calls Tryd.prog 60 #[.string s] w fun e w' => ∃ r, e = .returned (encR r) ∧ Rd s.data.toList r ∧ Below w.heap.size w w' := by
  have hbt := get_bt s
  have HT : Hid (Tab w) := ht
  clear ht
  go_enter Tryd.func60, Tryd.ntmps60
  go_wp2
  go_step3
  go_wp2
  go_step3
  go_wp2
  go_loopw [4, 5] (fun n i wr => ∃ k : Nat, k ≤ s.size ∧ n = .int .i64 (fo s k) ∧ i = .int .i64 k ∧ 0 ≤ fo s k ∧ fo s k ≤ 10000000009 ∧ wr = w) (fun _ i _ => s.size - (intOf i).toNat)
  case atStart => exact ⟨0, Nat.zero_le _, rfl, rfl, by rw [fo_zero]; decide, by rw [fo_zero]; decide, rfl⟩
  case round =>
    obtain ⟨k, hk, rfl, rfl, h0, h1, rfl⟩ := hrel
    have b0 := bt_nonneg s k
    have b1 := bt_le s k
    by_cases hgo : k < s.size ∧ 48 ≤ bt s k ∧ bt s k ≤ 57 ∧ fo s k ≤ 1000000000
    · obtain ⟨hlt, d0, d1, d2⟩ := hgo
      have hf := fo_succ s k hlt
      have HF : Hid (fo s (k + 1) = 10 * fo s k + bt s k - 48) := hf
      clear hf
      go_wp2
      go_roundw
      case rel => exact ⟨k + 1, by omega, by rw [HF.out]; go_num, by go_num, by rw [HF.out]; omega, by rw [HF.out]; omega, trivial⟩
      case measure => simp [intOf]; omega
    · have HK : Hid (Knows s (fo s k)) := by
        by_cases hlt : k < s.size
        · refine knows_none h0 fun m hm => ?_
          by_cases hd : bt s k < 48 ∨ 57 < bt s k
          · exact no_byte s k hlt hd m
          · exact no_big s k (by omega) m hm
        · exact knows_end hlt h0
      obtain ⟨n, hn⟩ := Int.eq_ofNat_of_zero_le h0
      rw [hn] at HK h1 hgo ⊢
      clear hn h0
      have hp : ¬ k < s.size ∨ (k < s.size ∧ bt s k < 48) ∨ (k < s.size ∧ 48 ≤ bt s k ∧ 57 < bt s k) ∨ (k < s.size ∧ 48 ≤ bt s k ∧ bt s k ≤ 57 ∧ 1000000000 < (n : Int)) := by omega
      clear hgo
      by_cases hb : 1000000000 < (n : Int)
      · have H : Hid (Rd s.data.toList none) := rd_big HK.out hb
        rcases hp with p1 | ⟨p1, p2⟩ | ⟨p1, p2, p3⟩ | ⟨p1, p2, p3, p4⟩
        all_goals
          go_wp2
          rw [Exit.noGoto_ret]
          go_ret2
          exact ⟨none, rfl, H.out, Below.refl _ _⟩
      · have hp' : ¬ k < s.size ∨ (k < s.size ∧ bt s k < 48) ∨ (k < s.size ∧ 48 ≤ bt s k ∧ 57 < bt s k) := by omega
        clear hp
        cases e : decDigits n == s.toList
        · have H : Hid (Rd s.data.toList none) := rd_no HK.out e
          rcases hp' with p1 | ⟨p1, p2⟩ | ⟨p1, p2, p3⟩
          all_goals
            go_wp2_with fail
            refine (dec6n n (by omega) _ HT.out).mono ?_
            rintro e w1 ⟨rfl, hb1⟩
            go_wp2
            rw [Exit.noGoto_ret]
            go_ret2
            exact ⟨none, rfl, H.out, hb1⟩
        · have H : Hid (Rd s.data.toList (some n)) := rd_yes (by omega) e
          rcases hp' with p1 | ⟨p1, p2⟩ | ⟨p1, p2, p3⟩
          all_goals
            go_wp2_with fail
            refine (dec6n n (by omega) _ HT.out).mono ?_
            rintro e w1 ⟨rfl, hb1⟩
            go_wp2
            rw [Exit.noGoto_ret]
            go_ret2
            exact ⟨some n, rfl, H.out, hb1⟩
end Go.Proofs.YtbcphgmcjickgaaDoor
