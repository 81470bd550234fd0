/-
  Plain facts on figures, of no program. No conditions.
-/
namespace Go.Proofs.Ytjnfiefnehlgnak.Plain

/-- the figure of a number below 16 -/
def fig (x : Nat) : UInt8 := if x < 10 then UInt8.ofNat (48 + x) else UInt8.ofNat (87 + x)
/-- two figures for each byte -/
def hexL : List UInt8 → List UInt8
  | [] => []
  | c :: l => fig (c.toNat / 16) :: fig (c.toNat % 16) :: hexL l
theorem hexL_snoc (l : List UInt8) (c : UInt8) : hexL (l ++ [c]) = hexL l ++ [fig (c.toNat / 16), fig (c.toNat % 16)] := by
  induction l with
  | nil => rfl
  | cons d l ih => simp only [List.cons_append, hexL, ih]
theorem hexL_len (l : List UInt8) : (hexL l).length = 2 * l.length := by
  induction l with
  | nil => rfl
  | cons d l ih => simp only [hexL, List.length_cons, ih]; omega
theorem fig_low {x : Nat} (h : x < 10) : (fig x).toNat = 48 + x := by
  unfold fig; rw [if_pos h, UInt8.toNat_ofNat']; omega
theorem fig_high {x : Nat} (h : 10 ≤ x) (h' : x < 16) : (fig x).toNat = 87 + x := by
  unfold fig; rw [if_neg (by omega), UInt8.toNat_ofNat']; omega

theorem fig_toNat {x : Nat} (h : x < 16) : ((fig x).toNat : Int) = if (x : Int) < 10 then 48 + (x : Int) else 87 + (x : Int) := by
  by_cases h' : x < 10
  · rw [fig_low h', if_pos (by omega)]; omega
  · rw [fig_high (by omega) h, if_neg (by omega)]; omega

end Go.Proofs.Ytjnfiefnehlgnak.Plain
