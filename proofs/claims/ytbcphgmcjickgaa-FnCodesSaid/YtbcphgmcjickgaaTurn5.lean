/-
  Code to bytes and back.
-/
import Derived.Test.YtbcphgmcjickgaaBytes
import Derived.Test.YtbcphgmcjickgaaRCode
namespace Go.Proofs.Ytbcphgmcjickgaa
open Go.RowKit Go.PlainAid
set_option linter.unusedVariables false

theorem bt_of {s : ByteArray} {k : Nat} {c : UInt8} (h : s.data.toList[k]? = some c) : bt s k = c.toNat := by
  have hk : k < s.data.toList.length := (List.getElem?_eq_some_iff.1 h).1
  have hk' : k < s.size := by rw [Array.length_toList] at hk; exact hk
  have h2 := (List.getElem?_eq_some_iff.1 h).2
  rw [← get_bt s k hk', ← h2]
  rfl
theorem of_bt {s : ByteArray} {k : Nat} (h : k < s.size) : s.data.toList[k]? = some (bOf (bt s k)) := by
  have hk : k < s.data.toList.length := by rw [Array.length_toList]; exact h
  have h1 : s.data.toList[k]? = some s.data.toList[k] := List.getElem?_eq_getElem hk
  rw [bt_of h1, bOf_back]
  exact h1
theorem codeB_at : ∀ (rl : List (Int × Int)) (i : Nat) (h : i < rl.length), (codeB rl)[2 * i]? = some (bOf rl[i].1) ∧ (codeB rl)[2 * i + 1]? = some (bOf rl[i].2)
  | [], i, h => by simp at h
  | r :: t, 0, h => by simp [codeB]
  | r :: t, i + 1, h => by
    have := codeB_at t i (by simpa using h)
    rw [show 2 * (i + 1) = 2 * i + 1 + 1 by omega]
    simpa [codeB] using this
theorem size_list (l : List UInt8) : (⟨l.toArray⟩ : ByteArray).size = l.length := List.size_toArray
theorem rc_code {rl : List (Int × Int)} (h : CodeR rl) : RcOk ⟨(codeB rl).toArray⟩ ∧ rcV ⟨(codeB rl).toArray⟩ true = rl := by
  have hs : (⟨(codeB rl).toArray⟩ : ByteArray).size = 2 * rl.length := by rw [size_list, codeB_len]
  refine ⟨⟨by rw [hs]; omega, by rw [hs]; have := h.1; omega⟩, ?_⟩
  show rcL _ _ = _
  rw [hs, show 2 * rl.length / 2 = rl.length by omega]
  apply List.ext_getElem (by rw [rcL_len])
  intro i h1 h2
  have ha := codeB_at rl i h2
  have hb := h.2 i h2
  have e : (rcL ⟨(codeB rl).toArray⟩ rl.length)[i] = (bt ⟨(codeB rl).toArray⟩ (2 * i), bt ⟨(codeB rl).toArray⟩ (2 * i + 1)) := by simp [rcL]
  rw [e, bt_of (c := bOf rl[i].1) ha.1, bt_of (c := bOf rl[i].2) ha.2, bOf_nat hb.1, bOf_nat hb.2]
theorem code_take {s : ByteArray} : ∀ j, 2 * j ≤ s.size → codeB (rcL s j) = s.data.toList.take (2 * j)
  | 0, _ => rfl
  | j + 1, h => by
    have hl : s.data.toList.length = s.size := Array.length_toList
    have h1 := of_bt (s := s) (k := 2 * j) (by omega)
    have h2 := of_bt (s := s) (k := 2 * j + 1) (by omega)
    rw [rcL_succ, codeB_app, code_take j (by omega), show 2 * (j + 1) = 2 * j + 1 + 1 by omega, List.take_add_one, List.take_add_one, h1, h2]
    simp [codeB]
theorem code_rc {s : ByteArray} (h : RcOk s) : CodeR (rcV s true) ∧ codeB (rcV s true) = s.data.toList := by
  have h1 := h.1
  have h2 := h.2
  have hl : s.data.toList.length = s.size := Array.length_toList
  refine ⟨⟨by show (rcL _ _).length ≤ 60; rw [rcL_len]; omega, fun i hi => ?_⟩, ?_⟩
  · have e : (rcV s true)[i] = (bt s (2 * i), bt s (2 * i + 1)) := by simp [rcV, rcL]
    rw [e]
    exact ⟨⟨bt_nonneg _ _, bt_le _ _⟩, ⟨bt_nonneg _ _, bt_le _ _⟩⟩
  · show codeB (rcL _ _) = _
    rw [code_take _ (by omega), List.take_of_length_le (by omega)]
theorem code_back {s : ByteArray} (h : RcOk s) : (⟨(codeB (rcV s true)).toArray⟩ : ByteArray) = s := by
  apply ByteArray.ext
  rw [(code_rc h).2]
theorem code_nil : CodeR [] := ⟨by simp, fun i h => by simp at h⟩
theorem rc_empty : RcOk ⟨#[]⟩ := ⟨rfl, Nat.zero_le _⟩

set_option maxHeartbeats 1000000 in
theorem sameIn (a b : Option Addr) (rl : List (Int × Int)) (n ca cb : Nat) (hl : rl.length = n) (hn : n ≤ 1048576) (w : World) (ha : RdR w a rl) (hb : RdR w b rl) :
    Calls Try.prog 14 #[.slice a n ca, .slice b n cb] w fun e w' => e = .returned (.bool true) ∧ Below w.heap.size w w' := by
  have HL : Hid (rl.length = n) := hl
  clear hl
  by_cases hp : 0 < n
  · obtain ⟨ga, oa, rfl, hca⟩ := ha (by have := HL.out; omega)
    obtain ⟨gb, ob, rfl, hcb⟩ := hb (by have := HL.out; omega)
    have HA : Hid (∀ j (h : j < rl.length), w.cell? ⟨ga, oa + j * 2, none⟩ = some (.int .i64 rl[j].1) ∧ w.cell? ⟨ga, oa + j * 2 + 1, none⟩ = some (.int .i64 rl[j].2)) := hca
    have HB : Hid (∀ j (h : j < rl.length), w.cell? ⟨gb, ob + j * 2, none⟩ = some (.int .i64 rl[j].1) ∧ w.cell? ⟨gb, ob + j * 2 + 1, none⟩ = some (.int .i64 rl[j].2)) := hcb
    clear ha hb hca hcb
    go_enter Try.func14, Try.ntmps14
    go_wp2
    go_loopg [5] n (fun gk i wr => ∃ j q : Nat, j + gk = n ∧ i = .int .i64 j ∧ wr = w.drewN q)
    case atStart => exact ⟨0, 0, by omega, rfl, rfl⟩
    case round =>
      obtain ⟨j, q, hj, rfl, rfl⟩ := hrel
      by_cases hlt : j < n
      · have hjl : j < rl.length := by have := HL.out; omega
        obtain ⟨c1, c2⟩ := HA.out j hjl
        obtain ⟨d1, d2⟩ := HB.out j hjl
        generalize rl[j].1 = f at *
        generalize rl[j].2 = s at *
        have i0 : (0 : Int) ≤ (j : Int) := by omega
        have i1 : (j : Int) < (n : Int) := by omega
        clear hjl
        go_wp2
        go_quiet (fail)
        go_wp2
        go_roundg (gk - 1)
        case measure => omega
        case rel => exact ⟨j + 1, q + nq, by omega, by go_num, rfl⟩
      · go_wp2
        go_ret
        exact ⟨rfl, below_drewN (Below.refl _ _) _⟩
  · obtain rfl : n = 0 := by omega
    clear ha hb
    go_enter Try.func14, Try.ntmps14
    go_wp2
    go_rounds 1
    go_ret
    exact ⟨rfl, Below.refl _ _⟩
theorem sameIn' (a b : Option Addr) (rl : List (Int × Int)) (n m ca cb : Nat) (hl : rl.length = n) (hm : rl.length = m) (hn : n ≤ 1048576) (w : World) (ha : RdR w a rl) (hb : RdR w b rl) :
    Calls Try.prog 14 #[.slice a n ca, .slice b m cb] w fun e w' => e = .returned (.bool true) ∧ Below w.heap.size w w' := by
  subst hm
  subst hl
  exact sameIn a b rl rl.length ca cb rfl hn w ha hb
end Go.Proofs.Ytbcphgmcjickgaa
