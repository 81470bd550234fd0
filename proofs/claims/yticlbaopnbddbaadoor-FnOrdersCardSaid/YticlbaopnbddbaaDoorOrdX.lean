/-
  A sealed text whose one byte is another is not unsealed.
-/
import Derived.Test.YticlbaopnbddbaaDoorOrdU
namespace Go.Proofs.YticlbaopnbddbaaDoor
open Go.RowKit Go.PlainAid
set_option linter.unusedVariables false

theorem sigil_list (s : ByteArray) : (Q.sigil s).data.toList = Q.fourB (Q.crc 4294967295 s.data.toList) := by simp [Q.sigil]
theorem turn_lists {S S' l m : List UInt8} {c d : UInt8} (hS : S ++ Q.fourB (Q.crc 4294967295 S) = l ++ c :: m) (hS' : S' ++ Q.fourB (Q.crc 4294967295 S') = l ++ d :: m) : c = d := by
  have e1 := congrArg List.length hS
  have e2 := congrArg List.length hS'
  rw [List.length_append, Q.fourB_len, List.length_append, List.length_cons] at e1 e2
  have hl : S.length = S'.length := by omega
  have t1 := congrArg (List.take S.length) hS
  have t2 := congrArg (List.take S.length) hS'
  have d1 := congrArg (List.drop S.length) hS
  have d2 := congrArg (List.drop S.length) hS'
  rw [List.take_left] at t1
  rw [hl, List.take_left] at t2
  rw [List.drop_left] at d1
  rw [hl, List.drop_left] at d2
  rw [← hl] at t2 d2
  by_cases hc : l.length < S.length
  · obtain ⟨q, hq⟩ : ∃ q, S.length = l.length + (q + 1) := ⟨S.length - l.length - 1, by omega⟩
    have a1 : (l ++ c :: m).take S.length = l ++ c :: m.take q := by rw [hq, List.take_length_add_append, List.take_succ_cons]
    have a2 : (l ++ d :: m).take S.length = l ++ d :: m.take q := by rw [hq, List.take_length_add_append, List.take_succ_cons]
    have b1 : (l ++ c :: m).drop S.length = m.drop q := by rw [hq, List.drop_length_add_append, List.drop_succ_cons]
    have b2 : (l ++ d :: m).drop S.length = m.drop q := by rw [hq, List.drop_length_add_append, List.drop_succ_cons]
    rw [a1] at t1
    rw [a2] at t2
    rw [b1] at d1
    rw [b2] at d2
    have e := Q.fourB_inj (Q.crc_lt (by omega) _) (Q.crc_lt (by omega) _) (d1.trans d2.symm)
    rw [t1, t2] at e
    exact Q.crc_turned (by omega) _ _ _ _ e
  · have a1 : (l ++ c :: m).take S.length = l.take S.length := by rw [List.take_append_of_le_length (by omega)]
    have a2 : (l ++ d :: m).take S.length = l.take S.length := by rw [List.take_append_of_le_length (by omega)]
    rw [a1] at t1
    rw [a2] at t2
    have e : S = S' := t1.trans t2.symm
    rw [e] at hS
    have := List.append_cancel_left (hS.symm.trans hS')
    exact (List.cons.inj this).1
theorem turned_none {t t' s : ByteArray} {l m : List UInt8} {c d : UInt8} (hU : Q.unsealed t = some s) (ht : t.data.toList = l ++ c :: m) (ht' : t'.data.toList = l ++ d :: m) (hne : c ≠ d) : Q.unsealed t' = none := by
  rcases h : Q.unsealed t' with _ | s'
  · rfl
  · have h1 := (uns_some hU).1
    have h2 := (uns_some h).1
    have e1 : s.data.toList ++ Q.fourB (Q.crc 4294967295 s.data.toList) = l ++ c :: m := by rw [← sigil_list, ← ht, h1]; simp [ByteArray.data_append]
    have e2 : s'.data.toList ++ Q.fourB (Q.crc 4294967295 s'.data.toList) = l ++ d :: m := by rw [← sigil_list, ← ht', h2]; simp [ByteArray.data_append]
    exact absurd (turn_lists e1 e2) hne
/-- the bytes of an order, one of them another, are those of none -/
theorem turned_rd {k n d v : Int} {t' : ByteArray} {l m : List UInt8} {c e : UInt8} (hR : OrdR k n d v) (ht : (ordT k n d v).data.toList = l ++ c :: m) (ht' : t'.data.toList = l ++ e :: m) (hne : c ≠ e) {k' n' d' v' : Int} {b : Bool} (h : RdOr t' k' n' d' v' b) : b = false := by
  rcases h with ⟨h1, h2, _⟩ | ⟨_, hb, _⟩
  · have e1 := uns_ord h1 h2
    rw [turned_none (uns_ord hR rfl) ht ht' hne] at e1
    cases e1
  · exact hb
end Go.Proofs.YticlbaopnbddbaaDoor
