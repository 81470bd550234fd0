/-
  A sealed text is unsealed; with one byte turned it is not. Bytes of a text, made a list.
-/
import Derived.Test.YtpmmphlfbmkjlaaDoorSeal
namespace Go.Proofs.YtpmmphlfbmkjlaaDoor
open Go.RowKit Go.PlainAid
set_option linter.unusedVariables false

theorem ext_list (s : ByteArray) (a b : Nat) : (s.extract a b).data.toList = (s.data.toList.drop a).take (b - a) := by
  rw [ByteArray.data_extract, Array.toList_extract]
theorem size_list (s : ByteArray) : s.size = s.data.toList.length := (Array.length_toList ..).symm
theorem okSum_list (x : ByteArray) (n : Nat) : okSum x n = (fourB (crc 4294967295 (x.data.toList.take n)) == x.data.toList.drop n) := by
  unfold okSum
  rw [ByteArray.toList_eq, ext_list, ext_list, List.drop_zero, Nat.sub_zero, List.take_of_length_le (l := x.data.toList.drop n) (by rw [List.length_drop, ← size_list]; omega)]
theorem sealed_list (s : ByteArray) : (s ++ sigil s).data.toList = s.data.toList ++ fourB (crc 4294967295 s.data.toList) := by simp [sigil]
theorem sealed_size (s : ByteArray) : (s ++ sigil s).size = s.size + 4 := by rw [size_list, sealed_list, List.length_append, ← size_list]; rfl
theorem sealed_ok (s : ByteArray) : okSum (s ++ sigil s) s.size = true := by
  rw [okSum_list, sealed_list, size_list, List.take_left, List.drop_left]; simp
theorem sealed_front (s : ByteArray) : (s ++ sigil s).extract 0 s.size = s := by
  apply ByteArray.ext
  apply Array.ext'
  rw [ext_list, sealed_list, List.drop_zero, Nat.sub_zero, size_list, List.take_left]
/-- one byte turned, wherever: the sum is not the text's -/
theorem turned_list (l : List UInt8) (i : Nat) (c : UInt8) (hi : i < l.length + 4) (hne : (l ++ fourB (crc 4294967295 l))[i]? ≠ some c) :
    fourB (crc 4294967295 (((l ++ fourB (crc 4294967295 l)).set i c).take l.length)) ≠ ((l ++ fourB (crc 4294967295 l)).set i c).drop l.length := by
  intro h
  by_cases hl : i < l.length
  · rw [List.set_append_left _ _ hl, List.take_left' (by simp), List.drop_left' (by simp)] at h
    have h2 := fourB_inj (crc_lt (by omega) _) (crc_lt (by omega) _) h
    rw [List.getElem?_append_left hl, List.getElem?_eq_getElem hl] at hne
    have e1 : l = l.take i ++ l[i] :: l.drop (i + 1) := by simp
    have e2 : l.set i c = l.take i ++ c :: l.drop (i + 1) := by rw [List.set_eq_take_append_cons_drop, if_pos hl]
    rw [e2] at h2
    have h3 := h2.trans (congrArg (crc 4294967295) e1)
    exact hne (by rw [crc_turned (by omega) _ _ _ _ h3])
  · rw [List.set_append_right _ _ (by omega), List.take_left, List.drop_left] at h
    rw [List.getElem?_append_right (by omega)] at hne
    apply hne
    have := congrArg (fun m : List UInt8 => m[i - l.length]?) h
    refine Eq.trans this ?_
    rw [List.getElem?_set_self (by rw [fourB_len]; omega)]
theorem turned_no (s : ByteArray) (i : Nat) (c : UInt8) (hi : i < s.size + 4) (hne : (s ++ sigil s).data.toList[i]? ≠ some c) : okSum ⟨((s ++ sigil s).data.toList.set i c).toArray⟩ s.size = false := by
  rw [okSum_list, sealed_list, size_list]
  rw [sealed_list] at hne
  have := turned_list s.data.toList i c (by rw [← size_list]; exact hi) hne
  simpa using this

/-- '[]byte(s)': a new row that holds the text's bytes -/
theorem bytes_run (w : World) (s : ByteArray) : ∃ (w' : World) (cap : Nat) (cs : Array Value), (convert 9 22 (.string s)).run Tryd.prog w = .ok (.slice (some ⟨w.heap.size, 0, none⟩) s.size cap) w' ∧ Below w.heap.size w w' ∧
    w'.heap[w.heap.size]? = some (.cells cs 5 (cs.size, cs.size + 1)) ∧ (∀ j (hj : j < s.size), cs[j]? = some (.int .u8 (s[j].toNat : Int))) := by
  refine ⟨_, _, bytesRow s (grownCap w s.size 0 5), run_bytes_of_string w 9 22 5 s Tryd.underlying9 Tryd.underlying22 Tryd.underlying5, ?_, ?_, ?_⟩
  · exact ((Below.refl _ _).drew).alloc (Nat.le_refl _) _
  · show (w.heap.push _)[w.heap.size]? = _
    simp
  · intro j hj
    exact bytesRow_at s _ j hj
end Go.Proofs.YtpmmphlfbmkjlaaDoor
