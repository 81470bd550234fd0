/-
  A set-up's text, read back: mathematics.
-/
import Derived.Test.YtadbekhekggpkaaGreatDoorTextM
import Derived.Test.YtadbekhekggpkaaGreatDoorCur11
namespace Go.Proofs.YtadbekhekggpkaaGreatDoor
open Go.RowKit Go.PlainAid
set_option linter.unusedVariables false

theorem ba_list (a b : ByteArray) : (a ++ b).data.toList = a.data.toList ++ b.data.toList := by simp [ByteArray.data_append]
theorem ba_len (a : ByteArray) : a.data.toList.length = a.size := Array.length_toList
theorem vX_list (n : Int) : (vX n).data.toList = Plain.vt n.toNat := rfl
theorem rv_pre {t p rest : ByteArray} {m : Int} (h : t = p ++ vX m ++ rest) (h0 : 0 ≤ m) (h1 : m ≤ 1000) : V.rv t (p.size : Int) = some (m, (p ++ vX m).size) := by
  have hd : t.data.toList.drop p.size = Plain.vt m.toNat ++ rest.data.toList := by
    rw [h, ba_list, ba_list, List.append_assoc, ← ba_len p, List.drop_left, vX_list]
  have hs : p.size ≤ t.size := by rw [h, ba_size, ba_size]; omega
  have := V.rv_at (n := m.toNat) (by omega) hd hs
  rw [this, Int.toNat_of_nonneg h0, ba_size]
  congr 2
theorem stepV_at {t p rest : ByteArray} {m n : Int} {a a' : Nat} {b b' : Bool} (hc : b = false ∧ a = p.size) (h : t = p ++ vX m ++ rest) (h0 : 0 ≤ m) (h1 : m ≤ 1000) (hs : StepV t a b n a' b') : n = m ∧ b' = false ∧ a' = (p ++ vX m).size := by
  obtain ⟨rfl, rfl⟩ := hc
  rcases hs with ⟨_, h2, h3⟩ | ⟨h2, _⟩
  · rw [rv_pre h h0 h1] at h2
    have h5 := Prod.mk.inj (Option.some.inj h2)
    exact ⟨h5.1.symm, h3, h5.2.symm⟩
  · rcases h2 with h2 | h2
    · cases h2
    · rw [rv_pre h h0 h1] at h2; cases h2
theorem ext_mid (p s rest : ByteArray) : (p ++ s ++ rest).extract p.size (p.size + s.size) = s := by
  apply ByteArray.ext
  apply Array.ext'
  rw [V.ext_list, ba_list, ba_list, List.append_assoc, ← ba_len p, List.drop_left, Nat.add_sub_cancel_left, ← ba_len s, List.take_left]
theorem shortV_at {t p rest s0 s : ByteArray} {a a' : Nat} {b b' : Bool} (hc : b = false ∧ a = p.size) (h : t = p ++ vX (s0.size : Int) ++ s0 ++ rest) (h1 : s0.size ≤ 120) (hs : ShortV t a b s a' b') : s = s0 ∧ b' = false ∧ a' = (p ++ vX (s0.size : Int) ++ s0).size := by
  obtain ⟨rfl, rfl⟩ := hc
  have hr : V.rv t (p.size : Int) = some ((s0.size : Int), (p ++ vX (s0.size : Int)).size) := rv_pre (rest := s0 ++ rest) (by rw [h]; simp only [ba_assoc]) (by omega) (by omega)
  rcases hs with ⟨_, ⟨m, c, h2, h3, h4, h5, h6⟩, h7⟩ | ⟨h2, _⟩
  · rw [hr] at h2
    obtain ⟨e1, e2⟩ := Prod.mk.inj (Option.some.inj h2)
    have e3 : s0.size = m := by omega
    subst e3
    subst e2
    refine ⟨?_, h7, by rw [h6, ba_size (p ++ vX _)]⟩
    rw [h5, h]
    exact ext_mid _ _ _
  · rcases h2 with h2 | h2
    · cases h2
    · refine absurd ⟨by omega, ?_⟩ (h2 _ _ hr)
      rw [h, ba_size (p ++ vX _ ++ s0), ba_size (p ++ vX _)]
      omega
theorem pT_app : ∀ x y : List (Int × Int), pT (x ++ y) = pT x ++ pT y
  | [], y => by simp [pT, ba_nil']
  | r :: t, y => by simp only [List.cons_append, pT, pT_app t y, ba_assoc]
theorem oT_app : ∀ x y : List Prt, oT (x ++ y) = oT x ++ oT y
  | [], y => by simp [oT, ba_nil']
  | r :: t, y => by simp only [List.cons_append, oT, oT_app t y, ba_assoc]
theorem uT_app : ∀ x y : List Rule, uT (x ++ y) = uT x ++ uT y
  | [], y => by simp [uT, ba_nil']
  | r :: t, y => by simp only [List.cons_append, uT, uT_app t y, ba_assoc]
theorem sT_app : ∀ x y : List ByteArray, sT (x ++ y) = sT x ++ sT y
  | [], y => by simp [sT, ba_nil']
  | r :: t, y => by simp only [List.cons_append, sT, sT_app t y, ba_assoc]
/-! how a right set-up's text stands, place by place -/
theorem pT_split {l : List (Int × Int)} {j : Nat} (h : j < l.length) : ∃ r, pT l = pT (l.take j) ++ vX (l[j]).1 ++ vX (l[j]).2 ++ r := by
  refine ⟨pT (l.drop (j + 1)), ?_⟩
  rw [← pT_take h, ← pT_app, List.take_append_drop]
theorem oT_split {l : List Prt} {j : Nat} (h : j < l.length) : ∃ r, oT l = oT (l.take j) ++ vX (l[j]).1 ++ vX (l[j]).2.1 ++ vX (l[j]).2.2.1 ++ vX (l[j]).2.2.2.1 ++ vX (l[j]).2.2.2.2 ++ r := by
  refine ⟨oT (l.drop (j + 1)), ?_⟩
  rw [← oT_take h, ← oT_app, List.take_append_drop]
theorem uT_split {l : List Rule} {j : Nat} (h : j < l.length) : ∃ r, uT l = uT (l.take j) ++ vX (l[j]).1 ++ vX (l[j]).2.1 ++ vX (l[j]).2.2 ++ r := by
  refine ⟨uT (l.drop (j + 1)), ?_⟩
  rw [← uT_take h, ← uT_app, List.take_append_drop]
theorem sT_split {l : List ByteArray} {j : Nat} (h : j < l.length) : ∃ r, sT l = sT (l.take j) ++ vX (l[j]).size ++ l[j] ++ r := by
  refine ⟨sT (l.drop (j + 1)), ?_⟩
  rw [← sT_take h, ← sT_app, List.take_append_drop]
end Go.Proofs.YtadbekhekggpkaaGreatDoor
