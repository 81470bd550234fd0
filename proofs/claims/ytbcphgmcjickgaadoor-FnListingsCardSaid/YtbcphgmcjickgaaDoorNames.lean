/-
  The names of instructions: the contracts of NameOf, the program's and the specification's.
-/
import Derived.Test.YtbcphgmcjickgaaDoorBase
import Derived.Laws.Rows
namespace Go.Proofs.YtbcphgmcjickgaaDoor
open Go.RowKit Go.PlainAid
set_option linter.unusedVariables false

def namesL : List ByteArray := [⟨#[101, 110, 100]⟩, ⟨#[112, 117, 115, 104]⟩, ⟨#[108, 111, 97, 100]⟩, ⟨#[115, 116, 111, 114, 101]⟩, ⟨#[97, 100, 100]⟩, ⟨#[115, 117, 98]⟩, ⟨#[109, 117, 108]⟩, ⟨#[100, 105, 118]⟩, ⟨#[108, 101, 115, 115]⟩, ⟨#[106, 117, 109, 112]⟩, ⟨#[122, 101, 114, 111]⟩, ⟨#[100, 117, 112]⟩, ⟨#[100, 114, 111, 112]⟩, ⟨#[115, 101, 110, 100]⟩, ⟨#[116, 97, 107, 101]⟩, ⟨#[105, 110]⟩, ⟨#[111, 117, 116]⟩, ⟨#[116, 105, 109, 101]⟩]
def nmA (r : Nat) : ByteArray := namesL.getD r ⟨#[]⟩
def nameOf (op : Int) : ByteArray := if 0 ≤ op ∧ op ≤ 17 then nmA op.toNat else ⟨#[]⟩
theorem nameOf_in {r : Nat} (h : r < 18) : nameOf (r : Int) = nmA r := by unfold nameOf; rw [if_pos (by omega), Int.toNat_natCast]
theorem nameOf_out {op : Int} (h : ¬ (0 ≤ op ∧ op ≤ 17)) : nameOf op = ⟨#[]⟩ := by unfold nameOf; rw [if_neg h]
theorem name_bytes : ∀ r, r < 18 → 2 ≤ (nmA r).data.toList.length ∧ (nmA r).data.toList.length ≤ 5 ∧ ∀ c ∈ (nmA r).data.toList, 97 ≤ c.toNat ∧ c.toNat ≤ 122 := by decide +kernel
theorem name_inj_l : ∀ r, r < 18 → ∀ q, q < 18 → (nmA r).data.toList = (nmA q).data.toList → r = q := by decide +kernel
theorem name_inj {r q : Nat} (hr : r < 18) (hq : q < 18) (h : nmA r = nmA q) : r = q := name_inj_l r hr q hq (by rw [h])
theorem name_ne {r : Nat} (hr : r < 18) : nmA r ≠ ⟨#[]⟩ := fun h => by
  have := (name_bytes r hr).1
  rw [h] at this
  simp at this

/-- the program's table of names -/
def TabN (w : World) : Prop := ∀ r, r < 18 → w.cell? ⟨0, r, none⟩ = some (.string (nmA r))
theorem tabN_below {w w' : World} (h : TabN w) (hb : Below w.heap.size w w') : TabN w' := fun r hr =>
  (hb.cell (p := ⟨0, r, none⟩) (World.block_lt_of_cell? w _ (h r hr))).trans (h r hr)

theorem nameI (op : Int) (w : World) (ht : TabN w) : Calls Tryd.prog 19 #[.int .i64 op] w fun e w' => e = .returned (.string (nameOf op)) ∧ w' = w := by
  by_cases h : 0 ≤ op ∧ op ≤ 17
  · obtain ⟨r, rfl⟩ := Int.eq_ofNat_of_zero_le h.1
    have hr : r < 18 := by omega
    have c := ht r hr
    have HE : Hid (nameOf (r : Int) = nmA r) := nameOf_in hr
    have hr' : ¬ (18 : Int) ≤ (r : Int) := by omega
    have hr2 : (r : Int) < 18 := by omega
    generalize nmA r = s at *
    clear ht h
    go_enter Tryd.func19, Tryd.ntmps19
    go_wp2
    go_ret
    exact ⟨by rw [HE.out]; rfl, rfl⟩
  · have HE : Hid (nameOf op = ⟨#[]⟩) := nameOf_out h
    clear ht
    by_cases h1 : op < 0
    · go_enter Tryd.func19, Tryd.ntmps19
      go_wp2
      go_ret
      exact ⟨by rw [HE.out]; rfl, rfl⟩
    · have h2 : (18 : Int) ≤ op := by omega
      go_enter Tryd.func19, Tryd.ntmps19
      go_wp2
      go_ret
      exact ⟨by rw [HE.out]; rfl, rfl⟩

/-- the block that l05Names lays -/
def namesO : Obj := .cells (namesL.map Value.string).toArray 9
theorem namesO_cell (w : World) (r : Nat) (hr : r < 18) : (w.alloc namesO).cell? ⟨w.heap.size, r, none⟩ = some (.string (nmA r)) := by
  unfold namesO
  rw [cell_of_row _ w.heap.size r _ 9 (0, 0) (heap_alloc_new w _)]
  have h : r < namesL.length := hr
  simp [nmA, h]
theorem namesS (w : World) : Calls Tryd.prog 46 #[] w fun e w' => e = .returned (.slice (some ⟨w.heap.size, 0, none⟩) 18 18) ∧ w' = w.alloc namesO := by
  go_enter Tryd.func46, Tryd.ntmps46
  go_wp2
  go_ret
  exact ⟨rfl, rfl⟩

theorem inS0 (l m n : Int) (b : Bool) (hb : decide (l ≤ n ∧ n ≤ m) = b) (w : World) : Calls Tryd.prog 45 #[.int .i64 n, .int .i64 l, .int .i64 m] w fun e w' => e = .returned (.bool b) ∧ w' = w := by
  go_enter Tryd.func45, Tryd.ntmps45
  by_cases h1 : l ≤ n
  · by_cases h2 : n ≤ m
    · go_wp2
      go_ret
      exact ⟨by rw [← hb, decide_eq_true ⟨h1, h2⟩]; rfl, rfl⟩
    · go_wp2
      go_ret
      exact ⟨by rw [← hb, decide_eq_false (fun h => by omega)]; rfl, rfl⟩
  · go_wp2
    go_ret
    exact ⟨by rw [← hb, decide_eq_false (fun h => by omega)]; rfl, rfl⟩

theorem nameS (op : Int) (w : World) : Calls Tryd.prog 20 #[.int .i64 op] w fun e w' => e = .returned (.string (nameOf op)) ∧ Below w.heap.size w w' := by
  by_cases h : 0 ≤ op ∧ op ≤ 17
  · obtain ⟨r, rfl⟩ := Int.eq_ofNat_of_zero_le h.1
    have hr : r < 18 := by omega
    have hd : decide ((0 : Int) ≤ (r : Int) ∧ (r : Int) ≤ 17) = true := decide_eq_true h
    have HE : Hid (nameOf (r : Int) = nmA r) := nameOf_in hr
    have hr2 : (r : Int) < 18 := by omega
    clear h
    go_enter Tryd.func20, Tryd.ntmps20
    go_wp2_with fail
    refine (inS0 0 17 r true hd _).mono ?_
    rintro e w1 ⟨rfl, rfl⟩
    go_wp2_with fail
    refine (namesS _).mono ?_
    rintro e w2 ⟨rfl, hw2⟩
    have c := namesO_cell w1 r hr
    have HB : Hid (Below w1.heap.size w1 (w1.alloc namesO)) := (Below.refl _ _).alloc (Nat.le_refl _) _
    rw [← hw2] at c HB
    generalize nmA r = s at *
    clear hw2 hd
    go_wp2
    go_ret
    exact ⟨by rw [HE.out]; rfl, HB.out⟩
  · have HE : Hid (nameOf op = ⟨#[]⟩) := nameOf_out h
    have hd : decide ((0 : Int) ≤ op ∧ op ≤ 17) = false := decide_eq_false h
    go_enter Tryd.func20, Tryd.ntmps20
    go_wp2_with fail
    refine (inS0 0 17 op false hd _).mono ?_
    rintro e w1 ⟨rfl, rfl⟩
    go_wp2
    go_ret
    exact ⟨by rw [HE.out]; rfl, Below.refl _ _⟩
end Go.Proofs.YtbcphgmcjickgaaDoor
