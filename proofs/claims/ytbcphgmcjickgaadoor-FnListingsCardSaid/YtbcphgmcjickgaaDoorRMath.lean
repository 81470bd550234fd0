/-
  A listing's lines tell what was listed.
-/
import Derived.Test.YtbcphgmcjickgaaDoorAMath
import Derived.Test.YtbcphgmcjickgaaDoorLMath
namespace Go.Proofs.YtbcphgmcjickgaaDoor
open Go.RowKit Plain Go.PlainAid
open Go.Lib (decDigits itoa indexByte)
set_option linter.unusedVariables false

theorem bt_at {l : List UInt8} {k : Nat} {c : UInt8} (h : l[k]? = some c) : bt ⟨l.toArray⟩ k = c.toNat := by
  have hk : k < l.length := (List.getElem?_eq_some_iff.1 h).1
  have h2 := (List.getElem?_eq_some_iff.1 h).2
  have hk' : k < (⟨l.toArray⟩ : ByteArray).size := by show k < l.toArray.size; rw [List.size_toArray]; exact hk
  rw [← get_bt _ k hk']
  show (((l.toArray)[k]'hk').toNat : Int) = _
  rw [← h2]
  simp
theorem V_run {s : ByteArray} {b : Nat} : ∀ e, b ≤ e → e ≤ s.size → (∀ j, b ≤ j → j < e → ¬ bt s j = 32) → V s b b = V s b e
  | 0, h, _, _ => by obtain rfl : b = 0 := by omega
                     rfl
  | e + 1, h, h2, h3 => by
    by_cases hb : b ≤ e
    · rw [V_run e hb (by omega) (fun j h4 h5 => h3 j h4 (by omega)), V_on (by omega) (h3 e hb (by omega))]
    · obtain rfl : b = e + 1 := by omega
      rfl
/-- two words with a blank between -/
theorem V_two {x y : List UInt8} (hx : x ≠ []) (hy : y ≠ []) (h1 : ∀ c ∈ x, c.toNat ≠ 32) (h2 : ∀ c ∈ y, c.toNat ≠ 32) : V ⟨(x ++ 32 :: y).toArray⟩ 0 0 = [⟨x.toArray⟩, ⟨y.toArray⟩] := by
  have hx0 : 0 < x.length := List.length_pos_iff.2 hx
  have hy0 : 0 < y.length := List.length_pos_iff.2 hy
  have hsz : (⟨(x ++ 32 :: y).toArray⟩ : ByteArray).size = x.length + 1 + y.length := by
    show (x ++ 32 :: y).toArray.size = _
    rw [List.size_toArray]; simp; omega
  have b1 : ∀ j, j < x.length → ¬ bt ⟨(x ++ 32 :: y).toArray⟩ j = 32 := fun j hj e => by
    have h : (x ++ 32 :: y)[j]? = some x[j] := by rw [List.getElem?_append_left hj, List.getElem?_eq_getElem hj]
    rw [bt_at h] at e
    exact h1 _ (List.getElem_mem hj) (by omega)
  have b2 : bt ⟨(x ++ 32 :: y).toArray⟩ x.length = 32 := by
    have h : (x ++ 32 :: y)[x.length]? = some 32 := by simp
    rw [bt_at h]; rfl
  have b3 : ∀ j, x.length + 1 ≤ j → j < x.length + 1 + y.length → ¬ bt ⟨(x ++ 32 :: y).toArray⟩ j = 32 := fun j hj hj2 e => by
    have hq : j - (x.length + 1) < y.length := by omega
    have h : (x ++ 32 :: y)[j]? = some y[j - (x.length + 1)] := by
      rw [List.getElem?_append_right (by omega), show j - x.length = (j - (x.length + 1)) + 1 by omega, List.getElem?_cons_succ, List.getElem?_eq_getElem hq]
    rw [bt_at h] at e
    exact h2 _ (List.getElem_mem hq) (by omega)
  rw [V_run x.length (by omega) (by omega) (fun j _ h => b1 j h), V_part hx0 (fun _ => b2), V_skip (by omega) b2,
    V_run (x.length + 1 + y.length) (by omega) (by omega) (fun j h h' => b3 j h h'), V_part (by omega) (fun h => by omega), V_last (by omega)]
  have e1 : (⟨(x ++ 32 :: y).toArray⟩ : ByteArray).extract 0 x.length = ⟨x.toArray⟩ := ba_list (by rw [ex_list]; simp)
  have e2 : (⟨(x ++ 32 :: y).toArray⟩ : ByteArray).extract (x.length + 1) (x.length + 1 + y.length) = ⟨y.toArray⟩ := ba_list (by
    rw [ex_list]
    have : (x ++ 32 :: y).take (x.length + 1 + y.length) = x ++ 32 :: y := List.take_of_length_le (by simp; omega)
    show ((x ++ 32 :: y).take (x.length + 1 + y.length)).drop (x.length + 1) = y
    rw [this, show x ++ 32 :: y = (x ++ [32]) ++ y by simp]
    exact List.drop_left' (by simp))
  rw [e1, e2]

/-- a line without its end -/
def lineX (f s : Int) : List UInt8 := (nameOf f).data.toList ++ 32 :: decDigits s.toNat
theorem lineB_eq (f s : Int) : lineB f s = lineX f s ++ [10] := by simp [lineB, lineX]
theorem name_b {f : Int} (h : isN f) : ∀ c ∈ (nameOf f).data.toList, 97 ≤ c.toNat ∧ c.toNat ≤ 122 := by
  obtain ⟨n, rfl⟩ := Int.eq_ofNat_of_zero_le h.1
  have hn : n < 18 := by have := h.2; omega
  rw [nameOf_in hn]
  exact (name_bytes n hn).2.2
theorem dec_b (m : Nat) : ∀ c ∈ decDigits m, 48 ≤ c.toNat ∧ c.toNat ≤ 57 := fun c hc => by
  have := (dec_all m m (Nat.le_refl _)).1 c hc
  omega
theorem dec_ne (m : Nat) : decDigits m ≠ [] := by
  rw [decDigits]
  split <;> simp
theorem lineX_b {f s : Int} (h : isN f) : ∀ c ∈ lineX f s, 32 ≤ c.toNat ∧ c.toNat ≤ 126 := fun c hc => by
  rcases List.mem_append.1 hc with hc | hc
  · have := name_b h c hc; omega
  · rcases List.mem_cons.1 hc with rfl | hc
    · decide
    · have := dec_b _ c hc; omega
theorem lineX_no {f s : Int} (h : isN f) : (10 : UInt8) ∉ lineX f s := fun hc => by
  have := (lineX_b h 10 hc).1
  exact absurd this (by decide)
theorem lineX_len {f s : Int} (hf : isN f) (hs : isB s) : (lineX f s).length ≤ 9 := by
  have := lineB_len hf hs
  rw [lineB_eq, List.length_append] at this
  simp at this
  omega
theorem lines_list : ∀ rl : List (Int × Int), (∀ r ∈ rl, isN r.1) → linesA (listB rl) [] = rl.map (fun r => (⟨(lineX r.1 r.2).toArray⟩ : ByteArray))
  | [], _ => rfl
  | r :: t, h => by
    have e : listB (r :: t) = lineX r.1 r.2 ++ 10 :: listB t := by simp [listB, lineB_eq]
    rw [e, linesA_cut _ _ _ (lineX_no (h r (by simp))), lines_list t (fun x hx => h x (by simp [hx]))]
    simp
theorem name_nn {f : Int} (hf : isN f) : (nameOf f).data.toList ≠ [] := fun e => by
  have h1 := (name_len hf).1
  have h2 : (nameOf f).data.toList.length = 0 := by rw [e]; rfl
  rw [Array.length_toList] at h2
  have h3 : (nameOf f).size = (nameOf f).data.size := rfl
  omega
theorem line_tells {f s : Int} (hf : isN f) (hs : isB s) : LineR ⟨(lineX f s).toArray⟩ (some (some (f, s))) := by
  have hV : V ⟨(lineX f s).toArray⟩ 0 0 = [⟨(nameOf f).data.toList.toArray⟩, ⟨(decDigits s.toNat).toArray⟩] :=
    V_two (name_nn hf) (dec_ne _)
      (fun c hc => by have := name_b hf c hc; omega) (fun c hc => by have := dec_b _ c hc; omega)
  have hsz : (⟨(lineX f s).toArray⟩ : ByteArray).size = (lineX f s).length := List.size_toArray
  have hP : Parts ⟨(lineX f s).toArray⟩ [⟨(nameOf f).data.toList.toArray⟩, ⟨(decDigits s.toNat).toArray⟩] true := by
    refine parts_yes (by have := lineX_len hf hs; omega) (fun k hk => ?_) hV.symm (by simp)
    have hk' : k < (lineX f s).length := by omega
    rw [bt_at (List.getElem?_eq_getElem hk')]
    have := lineX_b hf (s := s) _ (List.getElem_mem hk')
    omega
  refine ⟨_, true, hP, .inr ⟨fun h => by simp at h, some (f, s), ?_, rfl⟩⟩
  obtain ⟨n, rfl⟩ := Int.eq_ofNat_of_zero_le hf.1
  obtain ⟨m, rfl⟩ := Int.eq_ofNat_of_zero_le hs.1
  have hn : n < 18 := by have := hf.2; omega
  have hm : m ≤ 255 := by have := hs.2; omega
  refine insR_yes ⟨hn, hm, .inr ⟨⟨(decDigits (m : Int).toNat).toArray⟩, ?_, ?_⟩⟩
  · rw [nameOf_in hn]
  · rw [Int.toNat_natCast]
theorem asm_list : ∀ (rl out : List (Int × Int)) (k : Nat), (∀ r ∈ rl, isN r.1 ∧ isB r.2) → out.length + rl.length ≤ 60 → AsmR (rl.map (fun r => (⟨(lineX r.1 r.2).toArray⟩ : ByteArray))) k out (out ++ rl, 0)
  | [], out, k, _, _ => by simp [AsmR]
  | r :: t, out, k, h, hl => by
    refine .inr (.inr ⟨r, line_tells (h r (by simp)).1 (h r (by simp)).2, .inr ⟨by simp at hl; omega, ?_⟩⟩)
    have := asm_list t (out ++ [r]) (k + 1) (fun x hx => h x (by simp [hx])) (by simp at hl ⊢; omega)
    simpa using this
/-- what was listed is told -/
theorem asm_back {rl : List (Int × Int)} (h : LsOk rl) : AsmR (linesOf ⟨(listB rl).toArray⟩) 1 [] (rl, 0) := by
  have hN : ∀ r ∈ rl, isN r.1 ∧ isB r.2 := fun r hr => by
    obtain ⟨i, hi, rfl⟩ := List.mem_iff_getElem.1 hr
    exact ⟨h.2 i hi hi, (h.1.2 i hi).2⟩
  have e : linesOf ⟨(listB rl).toArray⟩ = linesA (listB rl) [] := rfl
  rw [e, lines_list rl (fun r hr => (hN r hr).1)]
  have := asm_list rl [] 1 hN (by have := h.1.1; simpa using this)
  simpa using this
theorem asm_none : AsmR (linesOf ⟨#[]⟩) 1 [] ([], 0) := rfl
theorem asm_one : ∀ (ls : List ByteArray) (k : Nat) (out : List (Int × Int)) (res res' : List (Int × Int) × Nat), AsmR ls k out res → AsmR ls k out res' → res = res'
  | [], k, out, res, res', h, h' => (show res = (out, 0) from h).trans (show res' = (out, 0) from h').symm
  | l :: t, k, out, res, res', h, h' => by
    rcases h with ⟨h1, h⟩ | ⟨h1, h⟩ | ⟨p, h1, ⟨h2, h⟩ | ⟨h2, h⟩⟩
    · exact asm_one t (k + 1) out res res' h (asm_skip h' h1)
    · rw [h, asm_bad h' h1]
    · rw [h, asm_full h' h1 h2]
    · exact asm_one t (k + 1) (out ++ [p]) res res' h (asm_on h' h1 h2)
end Go.Proofs.YtbcphgmcjickgaaDoor
