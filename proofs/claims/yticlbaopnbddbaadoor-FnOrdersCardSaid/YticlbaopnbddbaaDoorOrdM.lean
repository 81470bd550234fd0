/-
  Orders are read back: mathematics.
-/
import Derived.Test.YticlbaopnbddbaaDoorCur14
namespace Go.Proofs.YticlbaopnbddbaaDoor
open Go.RowKit Go.PlainAid
set_option linter.unusedVariables false

theorem vB_list (n : Int) : (vB n).data.toList = Plain.vt n.toNat := by simp [vB]
theorem kB_list (k : Int) : (kB k).data.toList = [UInt8.ofNat k.toNat] := rfl
theorem ordB_list (k n d v : Int) : (ordB k n d v).data.toList = UInt8.ofNat k.toNat :: (Plain.vt n.toNat ++ (Plain.vt d.toNat ++ Plain.vt v.toNat)) := by
  unfold ordB
  simp only [ByteArray.data_append, Array.toList_append, vB_list, kB_list]
  simp
theorem ordB_size (k n d v : Int) : (ordB k n d v).size = 1 + (Plain.vt n.toNat).length + (Plain.vt d.toNat).length + (Plain.vt v.toNat).length := by
  rw [V.size_list, ordB_list]
  simp
  omega
/-- the numbers of an order's bytes are read back -/
theorem rd_num {k n d v : Int} (hR : OrdR k n d v) : V.rv (ordB k n d v) ((1 : Nat) : Int) = some (n, 1 + (Plain.vt n.toNat).length) := by
  obtain ⟨_, h1, _, _⟩ := hR.bd
  have h := V.rv_at (s := ordB k n d v) (a := 1) (n := n.toNat) (post := Plain.vt d.toNat ++ Plain.vt v.toNat) (by omega) (by rw [ordB_list]; rfl) (by rw [ordB_size]; omega)
  rw [h, Int.toNat_of_nonneg h1.1]
theorem rd_den {k n d v : Int} (hR : OrdR k n d v) : V.rv (ordB k n d v) ((1 + (Plain.vt n.toNat).length : Nat) : Int) = some (d, 1 + (Plain.vt n.toNat).length + (Plain.vt d.toNat).length) := by
  obtain ⟨_, _, h2, _⟩ := hR.bd
  have h := V.rv_at (s := ordB k n d v) (a := 1 + (Plain.vt n.toNat).length) (n := d.toNat) (post := Plain.vt v.toNat) (by omega) (by
    rw [ordB_list, Nat.add_comm 1, List.drop_succ_cons, List.drop_left]) (by rw [ordB_size]; omega)
  rw [h, Int.toNat_of_nonneg h2.1]
theorem rd_vol {k n d v : Int} (hR : OrdR k n d v) : V.rv (ordB k n d v) ((1 + (Plain.vt n.toNat).length + (Plain.vt d.toNat).length : Nat) : Int) = some (v, 1 + (Plain.vt n.toNat).length + (Plain.vt d.toNat).length + (Plain.vt v.toNat).length) := by
  obtain ⟨_, _, _, h3⟩ := hR.bd
  have h := V.rv_at (s := ordB k n d v) (a := 1 + (Plain.vt n.toNat).length + (Plain.vt d.toNat).length) (n := v.toNat) (post := []) (by omega) (by
    rw [ordB_list, show 1 + (Plain.vt n.toNat).length + (Plain.vt d.toNat).length = ((Plain.vt n.toNat ++ Plain.vt d.toNat).length) + 1 by simp; omega, List.drop_succ_cons, ← List.append_assoc, List.drop_left]; simp) (by rw [ordB_size]; omega)
  rw [h, Int.toNat_of_nonneg h3.1]
theorem rd_kind {k n d v : Int} (hR : OrdR k n d v) : ((ordB k n d v).data.toList.head?).map (fun c => (c.toNat : Int)) = some k := by
  obtain ⟨h0, _, _, _⟩ := hR.bd
  rw [ordB_list]
  simp
  omega
/-- two right orders with the same bytes are one -/
theorem ordB_inj {k n d v k' n' d' v' : Int} (hR : OrdR k n d v) (hR' : OrdR k' n' d' v') (e : ordB k n d v = ordB k' n' d' v') : k = k' ∧ n = n' ∧ d = d' ∧ v = v' := by
  have a1 := rd_num hR
  have b1 := rd_num hR'
  rw [e, b1] at a1
  obtain ⟨e1, _⟩ := Prod.mk.inj (Option.some.inj a1)
  subst e1
  have a2 := rd_den hR
  have b2 := rd_den hR'
  rw [e, b2] at a2
  obtain ⟨e2, _⟩ := Prod.mk.inj (Option.some.inj a2)
  subst e2
  have a3 := rd_vol hR
  have b3 := rd_vol hR'
  rw [e, b3] at a3
  obtain ⟨e3, _⟩ := Prod.mk.inj (Option.some.inj a3)
  have a4 := rd_kind hR
  rw [e, rd_kind hR'] at a4
  exact ⟨(Option.some.inj a4).symm, rfl, rfl, e3.symm⟩
end Go.Proofs.YticlbaopnbddbaaDoor
