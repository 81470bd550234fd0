/-
  What lines tell: the parts of one, the instruction of one, the code of all.
-/
import Derived.Test.YtbcphgmcjickgaaDoorPMath5
import Derived.Test.YtbcphgmcjickgaaDoorDMath2
import Derived.Test.YtbcphgmcjickgaaDoorNames
import Derived.Lib.Bytealg
namespace Go.Proofs.YtbcphgmcjickgaaDoor
open Go.RowKit Plain Go.PlainAid
open Go.Lib (decDigits itoa indexByte)
set_option linter.unusedVariables false

/-- these parts tell instruction r with v -/
def Tells (L : List ByteArray) (r v : Nat) : Prop := r < 18 ∧ v ≤ 255 ∧ ((L = [nmA r] ∧ v = 0) ∨ ∃ d : ByteArray, L = [nmA r, d] ∧ decDigits v = d.data.toList)
theorem tells_one {L : List ByteArray} {r v r' v' : Nat} (h : Tells L r v) (h' : Tells L r' v') : r = r' ∧ v = v' := by
  obtain ⟨h1, _, h3⟩ := h
  obtain ⟨g1, _, g3⟩ := h'
  rcases h3 with ⟨e, rfl⟩ | ⟨d, e, hd⟩ <;> rcases g3 with ⟨e', rfl⟩ | ⟨d', e', hd'⟩
  · rw [e] at e'
    have : nmA r = nmA r' := by simpa using e'
    exact ⟨name_inj h1 g1 this, rfl⟩
  · rw [e] at e'; simp at e'
  · rw [e] at e'; simp at e'
  · rw [e] at e'
    obtain ⟨e1, e2⟩ : nmA r = nmA r' ∧ d = d' := by simpa using e'
    subst e2
    exact ⟨name_inj h1 g1 e1, dec_inj (hd.trans hd'.symm)⟩
/-- the instruction that parts tell, if they do -/
def InsR (L : List ByteArray) (o : Option (Int × Int)) : Prop := (∀ r v, Tells L r v → o = some ((r : Int), (v : Int))) ∧ ∀ p, o = some p → ∃ r v : Nat, Tells L r v ∧ p = ((r : Int), (v : Int))
theorem insR_yes {L : List ByteArray} {r v : Nat} (h : Tells L r v) : InsR L (some ((r : Int), (v : Int))) :=
  ⟨fun r' v' h' => by obtain ⟨rfl, rfl⟩ := tells_one h h'; rfl, fun p hp => ⟨r, v, h, (Option.some.inj hp).symm⟩⟩
theorem insR_no {L : List ByteArray} (h : ∀ r v, ¬ Tells L r v) : InsR L none := ⟨fun r v h' => absurd h' (h r v), fun p hp => by cases hp⟩
theorem insR_ex (L : List ByteArray) : ∃ o, InsR L o := by
  by_cases h : ∃ r v, Tells L r v
  · obtain ⟨r, v, h⟩ := h
    exact ⟨_, insR_yes h⟩
  · exact ⟨none, insR_no fun r v h' => h ⟨r, v, h'⟩⟩
theorem insR_one {L : List ByteArray} {o o' : Option (Int × Int)} (h : InsR L o) (h' : InsR L o') : o = o' := by
  cases o with
  | some p =>
    obtain ⟨r, v, ht, rfl⟩ := h.2 p rfl
    exact (h'.1 r v ht).symm
  | none =>
    cases o' with
    | none => rfl
    | some p =>
      obtain ⟨r, v, ht, rfl⟩ := h'.2 p rfl
      exact h.1 r v ht
theorem insR_nil : InsR [] none := insR_no fun r v h => by
  rcases h.2.2 with ⟨e, _⟩ | ⟨d, e, _⟩ <;> simp at e

/-- what a line tells: nothing (none), a fault (some none), an instruction -/
def LineR (s : ByteArray) (o : Option (Option (Int × Int))) : Prop := ∃ (L : List ByteArray) (b : Bool), Parts s L b ∧ ((b = true ∧ L = [] ∧ o = none) ∨ (¬ (b = true ∧ L = []) ∧ ∃ q, InsR L q ∧ o = some q))
theorem parts_ex (s : ByteArray) : ∃ L b, Parts s L b := by
  by_cases h : s.size ≤ 600 ∧ Plainly s ∧ (V s 0 0).length ≤ 10
  · exact ⟨V s 0 0, true, .inl ⟨rfl, h.1, h.2.1, h.2.2, rfl⟩⟩
  · exact ⟨[], false, .inr ⟨rfl, rfl, h⟩⟩
theorem lineR_one {s : ByteArray} {o o' : Option (Option (Int × Int))} (h : LineR s o) (h' : LineR s o') : o = o' := by
  obtain ⟨L, b, hp, hr⟩ := h
  obtain ⟨L', b', hp', hr'⟩ := h'
  obtain ⟨rfl, rfl⟩ := parts_one hp hp'
  rcases hr with ⟨h1, h2, rfl⟩ | ⟨h1, q, hq, rfl⟩ <;> rcases hr' with ⟨g1, g2, rfl⟩ | ⟨g1, q', hq', rfl⟩
  · rfl
  · exact absurd ⟨h1, h2⟩ g1
  · exact absurd ⟨g1, g2⟩ h1
  · rw [insR_one hq hq']
theorem lineR_ex (s : ByteArray) : ∃ o, LineR s o := by
  obtain ⟨L, b, hp⟩ := parts_ex s
  by_cases h : b = true ∧ L = []
  · exact ⟨none, L, b, hp, .inl ⟨h.1, h.2, rfl⟩⟩
  · obtain ⟨q, hq⟩ := insR_ex L
    exact ⟨some q, L, b, hp, .inr ⟨h, q, hq, rfl⟩⟩

/-- what lines tell, from line k on, behind what was told -/
def AsmR : List ByteArray → Nat → List (Int × Int) → List (Int × Int) × Nat → Prop
  | [], _, out, res => res = (out, 0)
  | l :: t, k, out, res => (LineR l none ∧ AsmR t (k + 1) out res) ∨ (LineR l (some none) ∧ res = ([], k)) ∨ ∃ p, LineR l (some (some p)) ∧ ((out.length = 60 ∧ res = ([], k)) ∨ (out.length ≠ 60 ∧ AsmR t (k + 1) (out ++ [p]) res))
theorem asm_skip {l : ByteArray} {t : List ByteArray} {k : Nat} {out : List (Int × Int)} {res : List (Int × Int) × Nat} (h : AsmR (l :: t) k out res) (hl : LineR l none) : AsmR t (k + 1) out res := by
  rcases h with ⟨_, h⟩ | ⟨h1, _⟩ | ⟨p, h1, _⟩
  · exact h
  · exact absurd (lineR_one hl h1) (by simp)
  · exact absurd (lineR_one hl h1) (by simp)
theorem asm_bad {l : ByteArray} {t : List ByteArray} {k : Nat} {out : List (Int × Int)} {res : List (Int × Int) × Nat} (h : AsmR (l :: t) k out res) (hl : LineR l (some none)) : res = ([], k) := by
  rcases h with ⟨h1, _⟩ | ⟨_, h⟩ | ⟨p, h1, _⟩
  · exact absurd (lineR_one hl h1) (by simp)
  · exact h
  · exact absurd (lineR_one hl h1) (by simp)
theorem asm_full {l : ByteArray} {t : List ByteArray} {k : Nat} {out : List (Int × Int)} {p : Int × Int} {res : List (Int × Int) × Nat} (h : AsmR (l :: t) k out res) (hl : LineR l (some (some p))) (hn : out.length = 60) : res = ([], k) := by
  rcases h with ⟨h1, _⟩ | ⟨h1, _⟩ | ⟨p', h1, ⟨_, h⟩ | ⟨h2, _⟩⟩
  · exact absurd (lineR_one hl h1) (by simp)
  · exact absurd (lineR_one hl h1) (by simp)
  · exact h
  · exact absurd hn h2
theorem asm_on {l : ByteArray} {t : List ByteArray} {k : Nat} {out : List (Int × Int)} {p : Int × Int} {res : List (Int × Int) × Nat} (h : AsmR (l :: t) k out res) (hl : LineR l (some (some p))) (hn : out.length ≠ 60) : AsmR t (k + 1) (out ++ [p]) res := by
  rcases h with ⟨h1, _⟩ | ⟨h1, _⟩ | ⟨p', h1, ⟨h2, _⟩ | ⟨_, h⟩⟩
  · exact absurd (lineR_one hl h1) (by simp)
  · exact absurd (lineR_one hl h1) (by simp)
  · exact absurd h2 hn
  · have := lineR_one hl h1
    simp at this
    subst this
    exact h
theorem asm_ex : ∀ (ls : List ByteArray) (k : Nat) (out : List (Int × Int)), ∃ res, AsmR ls k out res
  | [], k, out => ⟨_, rfl⟩
  | l :: t, k, out => by
    obtain ⟨o, ho⟩ := lineR_ex l
    match o, ho with
    | none, ho => obtain ⟨res, hr⟩ := asm_ex t (k + 1) out; exact ⟨res, .inl ⟨ho, hr⟩⟩
    | some none, ho => exact ⟨_, .inr (.inl ⟨ho, rfl⟩)⟩
    | some (some p), ho =>
      by_cases hn : out.length = 60
      · exact ⟨_, .inr (.inr ⟨p, ho, .inl ⟨hn, rfl⟩⟩)⟩
      · obtain ⟨res, hr⟩ := asm_ex t (k + 1) (out ++ [p])
        exact ⟨res, .inr (.inr ⟨p, ho, .inr ⟨hn, hr⟩⟩)⟩
theorem asm_len : ∀ (ls : List ByteArray) (k : Nat) (out : List (Int × Int)) (res : List (Int × Int) × Nat), out.length ≤ 60 → AsmR ls k out res → res.1.length ≤ 60
  | [], k, out, res, h, hr => by rw [show res = (out, 0) from hr]; exact h
  | l :: t, k, out, res, h, hr => by
    rcases hr with ⟨_, hr⟩ | ⟨_, rfl⟩ | ⟨p, _, ⟨_, rfl⟩ | ⟨hn, hr⟩⟩
    · exact asm_len t (k + 1) out res h hr
    · simp
    · simp
    · exact asm_len t (k + 1) (out ++ [p]) res (by simp; omega) hr

/-- the lines of a text, one begun -/
def linesA : List UInt8 → List UInt8 → List ByteArray
  | [], acc => if acc = [] then [] else [⟨acc.toArray⟩]
  | c :: t, acc => if c = 10 then ⟨acc.toArray⟩ :: linesA t [] else linesA t (acc ++ [c])
def linesOf (s : ByteArray) : List ByteArray := linesA s.data.toList []
theorem linesA_cut : ∀ (p q acc : List UInt8), (10 : UInt8) ∉ p → linesA (p ++ 10 :: q) acc = ⟨(acc ++ p).toArray⟩ :: linesA q []
  | [], q, acc, _ => by simp [linesA]
  | c :: p, q, acc, h => by
    have hc : c ≠ 10 := fun e => h (by simp [e])
    rw [List.cons_append, linesA, if_neg hc, linesA_cut p q (acc ++ [c]) (fun e => h (by simp [e]))]
    simp
theorem linesA_none : ∀ (p acc : List UInt8), (10 : UInt8) ∉ p → linesA p acc = if acc ++ p = [] then [] else [⟨(acc ++ p).toArray⟩]
  | [], acc, _ => by simp [linesA]
  | c :: p, acc, h => by
    have hc : c ≠ 10 := fun e => h (by simp [e])
    rw [linesA, if_neg hc, linesA_none p (acc ++ [c]) (fun e => h (by simp [e]))]
    simp
theorem linesA_size : ∀ (l acc : List UInt8), ∀ x ∈ linesA l acc, x.size ≤ acc.length + l.length
  | [], acc, x, h => by
    unfold linesA at h
    split at h
    · cases h
    · have : x = ⟨acc.toArray⟩ := by simpa using h
      rw [this]
      show acc.toArray.size ≤ _
      simp
  | c :: t, acc, x, h => by
    unfold linesA at h
    split at h
    · rcases List.mem_cons.1 h with rfl | h
      · show acc.toArray.size ≤ _
        simp
      · have := linesA_size t [] x h
        simp at this ⊢
        omega
    · have := linesA_size t (acc ++ [c]) x h
      simp at this ⊢
      omega
theorem index_spec : ∀ (l : List UInt8) (c : UInt8), (indexByte l c = -1 ∧ c ∉ l) ∨ ∃ i : Nat, indexByte l c = (i : Int) ∧ i < l.length ∧ l = l.take i ++ c :: l.drop (i + 1) ∧ c ∉ l.take i
  | [], c => .inl ⟨rfl, by simp⟩
  | b :: l, c => by
    unfold indexByte
    by_cases e : b = c
    · subst e
      exact .inr ⟨0, by simp, by simp, by simp, by simp⟩
    · rw [if_neg (by simpa using e)]
      rcases index_spec l c with ⟨h1, h2⟩ | ⟨i, h1, h2, h3, h4⟩
      · refine .inl ⟨by rw [h1]; rfl, ?_⟩
        intro h
        rcases List.mem_cons.1 h with h | h
        · exact e h.symm
        · exact h2 h
      · refine .inr ⟨i + 1, ?_, by simp; omega, ?_, ?_⟩
        · rw [h1, if_neg (by simp)]
          omega
        · simpa using h3
        · intro h
          rw [List.take_succ_cons] at h
          rcases List.mem_cons.1 h with h | h
          · exact e h.symm
          · exact h4 h
theorem ex_list (s : ByteArray) (a b : Nat) : (s.extract a b).data.toList = (s.data.toList.take b).drop a := by
  rw [ByteArray.data_extract]
  simp [List.drop_take]
theorem ba_list {s t : ByteArray} (h : s.data.toList = t.data.toList) : s = t := by
  apply ByteArray.ext
  exact Array.toList_inj.1 h
theorem lines_cut {s : ByteArray} {i : Nat} (h1 : s.data.toList = s.data.toList.take i ++ 10 :: s.data.toList.drop (i + 1)) (h2 : (10 : UInt8) ∉ s.data.toList.take i) : linesOf s = s.extract 0 i :: linesOf (s.extract (i + 1) s.size) := by
  unfold linesOf
  have hl : s.data.toList.length = s.size := Array.length_toList
  have e1 : (⟨(s.data.toList.take i).toArray⟩ : ByteArray) = s.extract 0 i := ba_list (by rw [ex_list]; simp)
  have e2 : s.data.toList.drop (i + 1) = (s.extract (i + 1) s.size).data.toList := by rw [ex_list, List.take_of_length_le (by omega)]
  conv => lhs; rw [h1]
  rw [linesA_cut _ _ _ h2, List.nil_append, e1, e2]
theorem lines_all {s : ByteArray} (h0 : 0 < s.size) (h2 : (10 : UInt8) ∉ s.data.toList) : linesOf s = [s] := by
  unfold linesOf
  have hl : s.data.toList.length = s.size := Array.length_toList
  rw [linesA_none _ _ h2, List.nil_append, if_neg (fun e => by rw [e] at hl; simp at hl; omega)]
theorem lines_nil {s : ByteArray} (h : s.size = 0) : linesOf s = [] := by
  unfold linesOf
  have hl : s.data.toList.length = s.size := Array.length_toList
  rw [List.length_eq_zero_iff.1 (hl.trans h)]
  rfl
end Go.Proofs.YtbcphgmcjickgaaDoor
