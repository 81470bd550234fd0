/-
  The contracts of Decimal and ReadDecimal over this translation; the table of powers of ten.
-/
import Derived.Test.YtjnfiefnehlgnaaDoorWords
import Derived.Test.YtjnfiefnehlgnaaDoorRows
import Derived.Lib.LaidTab
namespace Go.Proofs.YtjnfiefnehlgnaaDoor
open Go.RowKit Plain Go.PlainAid Go.ChangeShapes Go.WideShapes Go.ChangeAt
open Go.Lib (decDigits itoa)
set_option linter.unusedVariables false

/-- the table of powers of ten, as the library's own initialiser lays it -/
def Tab (w : World) : Prop := Lib.TabIs Tryd.prog w "internal/strconv.uint64pow10" .u64 Lib.pow10Tab

/-- the program's Decimal, at every int -/
theorem dec6 (n : Int) (h0 : -9223372036854775808 ≤ n) (h1 : n ≤ 9223372036854775807) (w : World) (ht : Tab w) :
    Calls Tryd.prog 9 #[.int .i64 n] w fun e w' => e = .returned (.string ⟨(itoa n).toArray⟩) ∧ Below w.heap.size w w' := by
  go_enter Tryd.func9, Tryd.ntmps9
  go_wp2_with fail
  refine (Tryd.strconv_Itoa n h0 h1 _ ht).mono ?_
  rintro e w1 ⟨rfl, k, os, hw⟩
  have hb : Below w.heap.size w w1 := by
    rw [hw]
    refine ⟨rfl, rfl, rfl, by simp [Go.Sort.grow], fun j hj => ?_⟩
    show (w.heap ++ os)[j]? = _
    rw [Array.getElem?_append_left hj]
  clear hw ht
  go_wp2
  go_ret
  exact ⟨rfl, hb⟩
theorem gTab : Tryd.prog.globalNamed "internal/strconv.uint64pow10" = some 1 := by kernel_rfl

theorem gTabType : (Tryd.prog.globals[1]?).map (·.type) = some 61 := by kernel_rfl

theorem cells38 : Tryd.prog.cellsOf 61 = 20 := by kernel_rfl

theorem cells31 : Tryd.prog.cellsOf 54 = 1 := by kernel_rfl

theorem pow10_datum : (Rows.laid_internal_strconv_uint64pow10 : DataW Unit) = Lib.tabData .u64 Lib.pow10Tab := by kernel_rfl

/-- what the row's list gives: the table's cells hold the powers of ten -/
theorem table_of {W : World} (h : laidMet Tryd.prog Rows.fnNumbersRow.laid W) : Tab W := by
  obtain ⟨ps, ⟨g1, t1, c1, f1, p1, q1, _, _, _, _, ⟨g2, t2, c2, f2, p2, q2, _, _, _, _, ⟨g', t', cs, fuel, p, q, hg', ht', hvar, hd, _, _⟩, _⟩, _⟩, _⟩ := h
  obtain rfl := Option.some.inj (gTab.symm.trans hg')
  obtain rfl := Option.some.inj (gTabType.symm.trans ht')
  rw [pow10_datum] at hd
  unfold Tab Lib.TabIs
  rw [hvar, ← Lib.cells_of_tab Tryd.underlying61 Tryd.underlying54 cells31 cells38 hd]

/-- the table stays below what is new -/
theorem tab_below {w w' : World} (ht : Tab w) (hb : Below w.heap.size w w') : Tab w' := by
  have hlt : 1 < w.heap.size := by
    rcases Nat.lt_or_ge 1 w.heap.size with h' | h'
    · exact h'
    · unfold Tab Lib.TabIs World.var? at ht
      simp only [gTab, Option.bind_some] at ht
      rw [Array.getElem?_eq_none h'] at ht; simp at ht
  exact var?_below hb gTab hlt ht

def setRow (cs : Array Value) : Obj → Obj
  | .cells _ t frozen => .cells cs t frozen
  | o => o

/-- a world whose first three blocks hold the tables -/
def layW (w : World) : World :=
  { w with heap := ((w.heap.modify 1 (setRow #[.int .u64 1, .int .u64 10, .int .u64 100, .int .u64 1000, .int .u64 10000, .int .u64 100000, .int .u64 1000000, .int .u64 10000000, .int .u64 100000000, .int .u64 1000000000, .int .u64 10000000000, .int .u64 100000000000, .int .u64 1000000000000, .int .u64 10000000000000, .int .u64 100000000000000, .int .u64 1000000000000000, .int .u64 10000000000000000, .int .u64 100000000000000000, .int .u64 1000000000000000000, .int .u64 10000000000000000000])).modify 2 (setRow #[.int .u8 0, .int .u8 1, .int .u8 28, .int .u8 2, .int .u8 29, .int .u8 14, .int .u8 24, .int .u8 3, .int .u8 30, .int .u8 22, .int .u8 20, .int .u8 15, .int .u8 25, .int .u8 17, .int .u8 4, .int .u8 8, .int .u8 31, .int .u8 27, .int .u8 13, .int .u8 23, .int .u8 21, .int .u8 19, .int .u8 16, .int .u8 7, .int .u8 26, .int .u8 12, .int .u8 18, .int .u8 6, .int .u8 11, .int .u8 5, .int .u8 10, .int .u8 9])).modify 3 (setRow #[.int .u8 0, .int .u8 1, .int .u8 56, .int .u8 2, .int .u8 57, .int .u8 49, .int .u8 28, .int .u8 3, .int .u8 61, .int .u8 58, .int .u8 42, .int .u8 50, .int .u8 38, .int .u8 29, .int .u8 17, .int .u8 4, .int .u8 62, .int .u8 47, .int .u8 59, .int .u8 36, .int .u8 45, .int .u8 43, .int .u8 51, .int .u8 22, .int .u8 53, .int .u8 39, .int .u8 33, .int .u8 30, .int .u8 24, .int .u8 18, .int .u8 12, .int .u8 5, .int .u8 63, .int .u8 55, .int .u8 48, .int .u8 27, .int .u8 60, .int .u8 41, .int .u8 37, .int .u8 16, .int .u8 46, .int .u8 35, .int .u8 44, .int .u8 21, .int .u8 52, .int .u8 32, .int .u8 23, .int .u8 11, .int .u8 54, .int .u8 26, .int .u8 40, .int .u8 15, .int .u8 34, .int .u8 20, .int .u8 31, .int .u8 10, .int .u8 25, .int .u8 14, .int .u8 19, .int .u8 9, .int .u8 13, .int .u8 8, .int .u8 7, .int .u8 6]) }
def encR : Option Nat → Value
  | none => .tuple #[.int .i64 0, .bool false]
  | some n => .tuple #[.int .i64 n, .bool true]

/-- what the first k bytes are worth -/
def fo (s : ByteArray) (k : Nat) : Int := foG 0 (s.data.toList.take k)

theorem fo_zero (s : ByteArray) : fo s 0 = 0 := rfl

theorem fo_succ (s : ByteArray) (k : Nat) (h : k < s.size) : fo s (k + 1) = 10 * fo s k + bt s k - 48 := by
  unfold fo
  rw [List.take_succ_eq_append_getElem (by simpa using h), foG_snoc, ← get_bt s k h]
  rfl

theorem fo_all (s : ByteArray) (k : Nat) (h : ¬ k < s.size) : fo s k = foG 0 s.data.toList := by
  unfold fo
  rw [List.take_of_length_le (by rw [Array.length_toList]; show s.size ≤ k; omega)]

theorem bt_list (s : ByteArray) (k : Nat) (h : k < s.size) (hk : k < s.data.toList.length) : (s.data.toList[k].toNat : Int) = bt s k := by
  rw [← get_bt s k h]
  rfl

/-- a text that has a byte that is no figure is no numeral -/
theorem no_byte (s : ByteArray) (k : Nat) (h : k < s.size) (hb : bt s k < 48 ∨ 57 < bt s k) (m : Nat) : decDigits m ≠ s.data.toList := fun e => by
  have hk : k < s.data.toList.length := by rw [Array.length_toList]; exact h
  have := dec_byte e k hk
  rw [bt_list s k h hk] at this
  omega

/-- a text a beginning of which is worth too much is no numeral -/
theorem no_big (s : ByteArray) (k : Nat) (h : 1000000000 < fo s k) (m : Nat) (hm : m ≤ 1000000000) : decDigits m ≠ s.data.toList := fun e => by
  have := (dec_take e k).2
  unfold fo at h
  omega

theorem no_long (s : ByteArray) (h : 10 < s.size) (m : Nat) (hm : m ≤ 1000000000) : decDigits m ≠ s.data.toList := fun e => by
  have := dec_len10 hm
  rw [e, Array.length_toList] at this
  have : s.size ≤ 10 := this
  omega

/-- behind the loop: n is held against the text -/
def Knows (s : ByteArray) (n : Int) : Prop := 0 ≤ n ∧ ∀ m : Nat, m ≤ 1000000000 → decDigits m = s.data.toList → (m : Int) = n

theorem rd_yes {s : ByteArray} {n : Nat} (h : n ≤ 1000000000) (e : (decDigits n == s.toList) = true) : Rd s.data.toList (some n) := by
  refine ⟨fun n' h' => ?_, fun h' => ?_⟩
  · cases h'
    exact ⟨h, by simpa [ByteArray.toList_eq] using e⟩
  · cases h'

theorem rd_none {s : ByteArray} (h : ∀ m, m ≤ 1000000000 → decDigits m ≠ s.data.toList) : Rd s.data.toList none := by
  refine ⟨fun n' h' => ?_, fun _ => h⟩
  cases h'

theorem rd_no {s : ByteArray} {n : Nat} (hk : Knows s n) (e : (decDigits n == s.toList) = false) : Rd s.data.toList none := by
  refine rd_none fun m hm h => ?_
  have h1 := hk.2 m hm h
  have : m = n := by omega
  subst this
  rw [h, ByteArray.toList_eq] at e
  simp at e

theorem rd_big {s : ByteArray} {n : Int} (hk : Knows s n) (h : 1000000000 < n) : Rd s.data.toList none :=
  rd_none fun m hm e => by have := hk.2 m hm e; omega

theorem knows_end {s : ByteArray} {k : Nat} (h : ¬ k < s.size) (h0 : 0 ≤ fo s k) : Knows s (fo s k) :=
  ⟨h0, fun m hm e => by rw [fo_all s k h, dec_fo e]⟩

theorem knows_none {s : ByteArray} {n : Int} (h0 : 0 ≤ n) (h : ∀ m, m ≤ 1000000000 → decDigits m ≠ s.data.toList) : Knows s n :=
  ⟨h0, fun m hm e => absurd e (h m hm)⟩

theorem dec6n (n : Nat) (hn : n ≤ 1000000000) (w : World) (ht : Tab w) :
    Calls Tryd.prog 9 #[.int .i64 n] w fun e w' => e = .returned (.string ⟨(decDigits n).toArray⟩) ∧ Below w.heap.size w w' := by
  rw [← itoa_pos]; exact dec6 n (by omega) (by omega) w ht

set_option maxHeartbeats 1000000 in
theorem rd8 (s : ByteArray) (hs : s.size ≤ 1048576) (w : World) (ht : Tab w) :
    Calls Tryd.prog 8 #[.string s] w fun e w' => ∃ r, e = .returned (encR r) ∧ Rd s.data.toList r ∧ Below w.heap.size w w' := by
  have hbt := get_bt s
  have HT : Hid (Tab w) := ht
  clear ht
  go_enter Tryd.func8, Tryd.ntmps8
  go_wp2
  go_step3
  go_wp2
  go_step3
  go_wp2
  go_loopw [4, 5] (fun n i wr => ∃ k : Nat, k ≤ s.size ∧ n = .int .i64 (fo s k) ∧ i = .int .i64 k ∧ 0 ≤ fo s k ∧ fo s k ≤ 10000000009 ∧ wr = w) (fun _ i _ => s.size - (intOf i).toNat)
  case atStart => exact ⟨0, Nat.zero_le _, rfl, rfl, by rw [fo_zero]; decide, by rw [fo_zero]; decide, rfl⟩
  case round =>
    obtain ⟨k, hk, rfl, rfl, h0, h1, rfl⟩ := hrel
    have b0 := bt_nonneg s k
    have b1 := bt_le s k
    by_cases hgo : k < s.size ∧ 48 ≤ bt s k ∧ bt s k ≤ 57 ∧ fo s k ≤ 1000000000
    · obtain ⟨hlt, d0, d1, d2⟩ := hgo
      have hf := fo_succ s k hlt
      have HF : Hid (fo s (k + 1) = 10 * fo s k + bt s k - 48) := hf
      clear hf
      go_wp2
      go_roundw
      case rel => exact ⟨k + 1, by omega, by rw [HF.out]; go_num, by go_num, by rw [HF.out]; omega, by rw [HF.out]; omega, trivial⟩
      case measure => simp [intOf]; omega
    · have HK : Hid (Knows s (fo s k)) := by
        by_cases hlt : k < s.size
        · refine knows_none h0 fun m hm => ?_
          by_cases hd : bt s k < 48 ∨ 57 < bt s k
          · exact no_byte s k hlt hd m
          · exact no_big s k (by omega) m hm
        · exact knows_end hlt h0
      obtain ⟨n, hn⟩ := Int.eq_ofNat_of_zero_le h0
      rw [hn] at HK h1 hgo ⊢
      clear hn h0
      have hp : ¬ k < s.size ∨ (k < s.size ∧ bt s k < 48) ∨ (k < s.size ∧ 48 ≤ bt s k ∧ 57 < bt s k) ∨ (k < s.size ∧ 48 ≤ bt s k ∧ bt s k ≤ 57 ∧ 1000000000 < (n : Int)) := by omega
      clear hgo
      by_cases hb : 1000000000 < (n : Int)
      · have H : Hid (Rd s.data.toList none) := rd_big HK.out hb
        rcases hp with p1 | ⟨p1, p2⟩ | ⟨p1, p2, p3⟩ | ⟨p1, p2, p3, p4⟩
        all_goals
          go_wp2
          rw [Exit.noGoto_ret]
          go_ret2
          exact ⟨none, rfl, H.out, Below.refl _ _⟩
      · have hp' : ¬ k < s.size ∨ (k < s.size ∧ bt s k < 48) ∨ (k < s.size ∧ 48 ≤ bt s k ∧ 57 < bt s k) := by omega
        clear hp
        cases e : decDigits n == s.toList
        · have H : Hid (Rd s.data.toList none) := rd_no HK.out e
          rcases hp' with p1 | ⟨p1, p2⟩ | ⟨p1, p2, p3⟩
          all_goals
            go_wp2_with fail
            refine (dec6n n (by omega) _ HT.out).mono ?_
            rintro e w1 ⟨rfl, hb1⟩
            go_wp2
            rw [Exit.noGoto_ret]
            go_ret2
            exact ⟨none, rfl, H.out, hb1⟩
        · have H : Hid (Rd s.data.toList (some n)) := rd_yes (by omega) e
          rcases hp' with p1 | ⟨p1, p2⟩ | ⟨p1, p2, p3⟩
          all_goals
            go_wp2_with fail
            refine (dec6n n (by omega) _ HT.out).mono ?_
            rintro e w1 ⟨rfl, hb1⟩
            go_wp2
            rw [Exit.noGoto_ret]
            go_ret2
            exact ⟨some n, rfl, H.out, hb1⟩
end Go.Proofs.YtjnfiefnehlgnaaDoor
