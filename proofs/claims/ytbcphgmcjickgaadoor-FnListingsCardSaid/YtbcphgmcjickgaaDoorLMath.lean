/-
  The text of a listing.
-/
import Derived.Test.YtbcphgmcjickgaaDoorCode
import Derived.Test.YtbcphgmcjickgaaDoorNames
import Derived.Test.YtbcphgmcjickgaaDoorDMath2
namespace Go.Proofs.YtbcphgmcjickgaaDoor
open Go.RowKit Plain Go.PlainAid
open Go.Lib (decDigits itoa)
set_option linter.unusedVariables false

def lineB (f s : Int) : List UInt8 := (nameOf f).data.toList ++ (32 :: (decDigits s.toNat ++ [10]))
def listB : List (Int × Int) → List UInt8
  | [] => []
  | r :: t => lineB r.1 r.2 ++ listB t
theorem listB_app : ∀ x y : List (Int × Int), listB (x ++ y) = listB x ++ listB y
  | [], y => rfl
  | r :: t, y => by simp [listB, listB_app t y]
theorem listB_take {rl : List (Int × Int)} {j : Nat} (h : j < rl.length) : listB (rl.take (j + 1)) = listB (rl.take j) ++ lineB rl[j].1 rl[j].2 := by
  rw [List.take_succ_eq_append_getElem h, listB_app]; simp [listB]
theorem listB_all {rl : List (Int × Int)} {n : Nat} (h : rl.length = n) : listB (rl.take n) = listB rl := by rw [List.take_of_length_le (by omega)]
def isN (x : Int) : Prop := 0 ≤ x ∧ x ≤ 17
/-- the first j have names -/
def Named (rl : List (Int × Int)) (j : Nat) : Prop := ∀ i (h : i < rl.length), i < j → isN rl[i].1
theorem named_zero (rl : List (Int × Int)) : Named rl 0 := fun i _ h => by omega
theorem named_succ {rl : List (Int × Int)} {j : Nat} (h : Named rl j) (hj : j < rl.length) (hr : isN rl[j].1) : Named rl (j + 1) := fun i hi hlt => by
  by_cases e : i = j
  · subst e; exact hr
  · exact h i hi (by omega)
/-- what can be listed -/
def LsOk (rl : List (Int × Int)) : Prop := CodeR rl ∧ Named rl rl.length
theorem ls_bool (rl : List (Int × Int)) : ∃ b : Bool, b = true ↔ LsOk rl := by
  by_cases hk : LsOk rl
  · exact ⟨true, ⟨fun _ => hk, fun _ => rfl⟩⟩
  · exact ⟨false, ⟨fun h => (by cases h), fun h => absurd h hk⟩⟩
theorem not_ls {rl : List (Int × Int)} {b : Bool} (hb : b = true ↔ LsOk rl) (j : Nat) (hj : j < rl.length) (h : ¬ isN rl[j].1) : b = false := by
  cases b
  · rfl
  · exact absurd ((hb.1 rfl).2 j hj hj) h
theorem not_lc {rl : List (Int × Int)} {b : Bool} (hb : b = true ↔ LsOk rl) (h : ¬ CodeR rl) : b = false := by
  cases b
  · rfl
  · exact absurd (hb.1 rfl).1 h
theorem name_len {f : Int} (h : isN f) : 2 ≤ (nameOf f).size ∧ (nameOf f).size ≤ 5 := by
  obtain ⟨n, rfl⟩ := Int.eq_ofNat_of_zero_le h.1
  have hn : n < 18 := by have := h.2; omega
  rw [nameOf_in hn]
  have := name_bytes n hn
  rw [Array.length_toList] at this
  exact ⟨this.1, this.2.1⟩
theorem name_ne0 {f : Int} (h : isN f) : (nameOf f).toList.isEmpty = false := by
  have := (name_len h).1
  rw [ByteArray.toList_eq]
  cases e : (nameOf f).data.toList with
  | nil =>
    have h2 : (nameOf f).data.toList.length = 0 := by rw [e]; rfl
    rw [Array.length_toList] at h2
    have h3 : (nameOf f).size = 0 := h2
    omega
  | cons x y => rfl
theorem dec_len3 {m : Nat} (h : m ≤ 255) : (decDigits m).length ≤ 3 := by
  have e : (10 : Nat) ^ (2 + 1) = 1000 := by decide
  exact dec_len 2 m (by omega)
theorem lineB_len {f s : Int} (hf : isN f) (hs : isB s) : (lineB f s).length ≤ 10 := by
  have h1 := (name_len hf).2
  have h2 := dec_len3 (m := s.toNat) (by unfold isB at hs; omega)
  unfold lineB
  simp only [List.length_append, List.length_cons, List.length_nil, Array.length_toList]
  have h3 : (nameOf f).data.size = (nameOf f).size := rfl
  omega
theorem listB_len {rl : List (Int × Int)} (hc : CodeR rl) : ∀ j, j ≤ rl.length → Named rl j → (listB (rl.take j)).length ≤ 10 * j
  | 0, _, _ => by simp [listB]
  | j + 1, h, hn => by
    have h1 := listB_len hc j (by omega) (fun i hi hlt => hn i hi (by omega))
    have h2 := lineB_len (hn j (by omega) (by omega)) (hc.2 j (by omega)).2
    rw [listB_take (by omega), List.length_append]
    omega
/-- what Listing answers -/
def lsV (rl : List (Int × Int)) : Bool → Value
  | true => .tuple #[.string ⟨(listB rl).toArray⟩, .bool true]
  | false => .tuple #[.string ⟨#[]⟩, .bool false]
theorem lsV_form {rl : List (Int × Int)} {b : Bool} (hb : b = true ↔ LsOk rl) : ∃ s : ByteArray, lsV rl b = .tuple #[.string s, .bool b] ∧ s.size ≤ 600 ∧ (b = true → s = ⟨(listB rl).toArray⟩) ∧ (b = false → s = ⟨#[]⟩) := by
  cases b
  · exact ⟨_, rfl, Nat.zero_le _, (fun h => by cases h), (fun _ => rfl)⟩
  · refine ⟨_, rfl, ?_, (fun _ => rfl), (fun h => by cases h)⟩
    have h1 := hb.1 rfl
    have h2 := listB_len h1.1 rl.length (Nat.le_refl _) h1.2
    rw [listB_all rfl] at h2
    have h3 := h1.1.1
    show (listB rl).toArray.size ≤ 600
    rw [List.size_toArray]
    omega
/-- the text that is written for one instruction -/
theorem line_data (f s : Int) (nm d : ByteArray) (hn : nameOf f = nm) (hd : d.data.toList = decDigits s.toNat) : (nm ++ (⟨#[32]⟩ : ByteArray) ++ d ++ (⟨#[10]⟩ : ByteArray)).data.toList = lineB f s := by
  subst hn
  unfold lineB
  rw [← hd]
  simp
theorem itoa_toNat {s : Int} (h : isB s) : itoa s = decDigits s.toNat := by
  obtain ⟨n, rfl⟩ := Int.eq_ofNat_of_zero_le h.1
  rw [itoa_pos, Int.toNat_natCast]
end Go.Proofs.YtbcphgmcjickgaaDoor
