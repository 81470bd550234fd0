/-
  What is sealed, and what is unsealed.
-/
import Derived.Test.YticlbaopnbddbaaDoorOrdM
namespace Go.Proofs.YticlbaopnbddbaaDoor
open Go.RowKit Go.PlainAid
set_option linter.unusedVariables false

theorem ba_eq {a b : ByteArray} (h : a.data.toList = b.data.toList) : a = b := ByteArray.ext (Array.toList_inj.1 h)
theorem uns_some {t s : ByteArray} (h : Q.unsealed t = some s) : t = s ++ Q.sigil s ∧ s.size ≤ 20000 := by
  unfold Q.unsealed at h
  split at h
  · rename_i hc
    obtain ⟨h1, h2, h3⟩ := hc
    obtain rfl := Option.some.inj h
    have hl := V.size_list t
    refine ⟨ba_eq ?_, ?_⟩
    · unfold Q.okSum at h3
      have e : (t.extract (t.size - 4) t.size).toList = Q.fourB (Q.crc 4294967295 (t.extract 0 (t.size - 4)).data.toList) := by
        have := eq_of_beq h3
        exact this.symm
      rw [ByteArray.toList_eq] at e
      have e2 : (Q.sigil (t.extract 0 (t.size - 4))).data.toList = (t.extract (t.size - 4) t.size).data.toList := by rw [e]; simp [Q.sigil]
      rw [ByteArray.data_append, Array.toList_append, e2, V.ext_list, V.ext_list]
      simp only [List.drop_zero, Nat.sub_zero]
      rw [List.take_of_length_le (l := List.drop (t.size - 4) t.data.toList) (by rw [List.length_drop]; omega), List.take_append_drop]
    · rw [ByteArray.size_extract]
      omega
  · cases h
theorem uns_seal {s : ByteArray} (h : s.size ≤ 20000) : Q.unsealed (s ++ Q.sigil s) = some s := by
  have hz : (s ++ Q.sigil s).size = s.size + 4 := by rw [ByteArray.size_append, Q.sigil_size]
  have hs := V.size_list s
  have e0 : (s ++ Q.sigil s).extract 0 s.size = s := ba_eq (by
    rw [V.ext_list, ByteArray.data_append, Array.toList_append]
    simp only [List.drop_zero, Nat.sub_zero]
    rw [hs, List.take_left])
  have e1 : ((s ++ Q.sigil s).extract s.size (s ++ Q.sigil s).size).toList = (Q.sigil s).data.toList := by
    rw [ByteArray.toList_eq, V.ext_list, hz, ByteArray.data_append, Array.toList_append, hs, List.drop_left]
    rw [List.take_of_length_le]
    rw [← V.size_list, Q.sigil_size]
    omega
  unfold Q.unsealed
  rw [if_pos ⟨by omega, by omega, by
    rw [hz, Nat.add_sub_cancel]
    unfold Q.okSum
    rw [e0, e1]
    simp [Q.sigil]⟩, hz, Nat.add_sub_cancel, e0]
theorem ordB_small {k n d v : Int} (hR : OrdR k n d v) : (ordB k n d v).size ≤ 16 := by
  obtain ⟨_, h1, h2, h3⟩ := hR.bd
  have a1 := V.vt_five (n := n.toNat) (by omega)
  have a2 := V.vt_five (n := d.toNat) (by omega)
  have a3 := V.vt_five (n := v.toNat) (by omega)
  rw [ordB_size]
  omega
/-- the bytes of a right order, unsealed -/
theorem uns_ord {k n d v : Int} {t : ByteArray} (hR : OrdR k n d v) (h : ordT k n d v = t) : Q.unsealed t = some (ordB k n d v) := by
  rw [← h]
  exact uns_seal (by have := ordB_small hR; omega)
theorem ordT_inj {k n d v k' n' d' v' : Int} (hR : OrdR k n d v) (hR' : OrdR k' n' d' v') (e : ordT k n d v = ordT k' n' d' v') : k = k' ∧ n = n' ∧ d = d' ∧ v = v' :=
  ordB_inj hR hR' (Option.some.inj ((uns_ord hR rfl).symm.trans (uns_ord hR' e.symm)))
/-- the right order whose bytes these are, or none -/
def RdOr (t : ByteArray) (k n d v : Int) (b : Bool) : Prop := (OrdR k n d v ∧ ordT k n d v = t ∧ b = true) ∨ ((∀ k n d v, OrdR k n d v → ordT k n d v ≠ t) ∧ b = false ∧ k = 0 ∧ n = 0 ∧ d = 0 ∧ v = 0)
theorem RdOr.uni {t : ByteArray} {k n d v k' n' d' v' : Int} {b b' : Bool} (h : RdOr t k n d v b) (h' : RdOr t k' n' d' v' b') : k = k' ∧ n = n' ∧ d = d' ∧ v = v' ∧ b = b' := by
  rcases h with ⟨h1, h2, rfl⟩ | ⟨h1, rfl, rfl, rfl, rfl, rfl⟩ <;> rcases h' with ⟨g1, g2, rfl⟩ | ⟨g1, rfl, rfl, rfl, rfl, rfl⟩
  · obtain ⟨a, b, c, d⟩ := ordT_inj h1 g1 (h2.trans g2.symm)
    exact ⟨a, b, c, d, rfl⟩
  · exact absurd h2 (g1 _ _ _ _ h1)
  · exact absurd g2 (h1 _ _ _ _ g1)
  · exact ⟨rfl, rfl, rfl, rfl, rfl⟩
end Go.Proofs.YticlbaopnbddbaaDoor
