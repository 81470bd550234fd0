/-
  The draws' contracts.
-/
import Derived.Test.YtphijlknefgkiaaGreatDoorBase
import Derived.Laws.BitsLemmas
import Derived.Laws.Rows
namespace Go.Proofs.YtphijlknefgkiaaGreatDoor
open Go.RowKit Go.PlainAid
set_option linter.unusedVariables false

theorem and255 (n : Int) : bits .and .i64 n 255 = n % 256 := by
  have h : (BitVec.ofInt 64 255).toNat = 2 ^ 8 - 1 := by decide
  have key : (BitVec.ofInt 64 n &&& BitVec.ofInt 64 255).toNat = (n % ((2 ^ 64 : Nat) : Int)).toNat % 2 ^ 8 := by
    rw [BitVec.toNat_and, BitVec.toNat_ofInt, h, Nat.and_two_pow_sub_one_eq_mod]
  show IntKind.i64.wrap ((BitVec.ofInt 64 n &&& BitVec.ofInt 64 255).toNat : Nat) = n % 256
  rw [key, IntKind.wrap_i64]
  omega

theorem and30 (n : Int) : bits .and .i64 n 1073741823 = n % 1073741824 := by
  have h : (BitVec.ofInt 64 1073741823).toNat = 2 ^ 30 - 1 := by decide
  have key : (BitVec.ofInt 64 n &&& BitVec.ofInt 64 1073741823).toNat = (n % ((2 ^ 64 : Nat) : Int)).toNat % 2 ^ 30 := by
    rw [BitVec.toNat_and, BitVec.toNat_ofInt, h, Nat.and_two_pow_sub_one_eq_mod]
  show IntKind.i64.wrap ((BitVec.ofInt 64 n &&& BitVec.ofInt 64 1073741823).toNat : Nat) = n % 1073741824
  rw [key, IntKind.wrap_i64]
  omega

/-- the bytes that were handed in, below block B -/
def CodeOk (w : World) (B : Nat) (a : Option Addr) (len : Nat) : Prop := len ≤ 1048576 ∧ (0 < len → ∃ b off, a = some ⟨b, off, none⟩ ∧ b < B ∧ ∀ j, j < len → ∃ x : Int, 0 ≤ x ∧ x ≤ 255 ∧ w.cell? ⟨b, off + j, none⟩ = some (.int .u8 x))

theorem code_below {w w' : World} {B : Nat} {a : Option Addr} {len : Nat} (h : CodeOk w B a len) (hb : Below B w w') : CodeOk w' B a len := by
  refine ⟨h.1, fun hp => ?_⟩
  obtain ⟨b, off, ha, hlt, hc⟩ := h.2 hp
  exact ⟨b, off, ha, hlt, fun j hj => by
    obtain ⟨x, h0, h1, hx⟩ := hc j hj
    exact ⟨x, h0, h1, (hb.cell (p := ⟨b, off + j, none⟩) hlt).trans hx⟩⟩

theorem code_grown {w w' : World} {B C : Nat} {a : Option Addr} {len : Nat} (h : CodeOk w B a len) (hb : w.grownBy w' (some C)) (hC : B ≤ C) (hB : B ≤ w.heap.size) : CodeOk w' B a len :=
  code_below h ((Below.refl B w).grown hb hB (fun k hk => by cases hk; exact hC))

theorem grown_trans {w w1 w2 : World} {r : Option Nat} (h : w.grownBy w1 r) (k : w1.grownBy w2 r) : w.grownBy w2 r :=
  ⟨k.os.trans h.os, k.tape.trans h.tape, k.output.trans h.output, Nat.le_trans h.size k.size, fun j hj hne => (k.block j (Nat.lt_of_lt_of_le hj h.size) hne).trans (h.block j hj hne)⟩

theorem grown_set (w : World) (C i : Nat) (v : Value) : w.grownBy (w.setCell ⟨C, i, none⟩ v) (some C) :=
  ⟨rfl, rfl, rfl, by simp, fun k _ hne => heap_setCell_other w _ k v (fun e => hne (by rw [e]))⟩

theorem grown_drewN (w : World) (n : Nat) (r : Option Nat) : w.grownBy (w.drewN n) r := ⟨rfl, rfl, rfl, Nat.le_refl _, fun _ _ _ => rfl⟩

theorem mod_lo (x : Int) : 0 ≤ x % 256 := Int.emod_nonneg _ (by decide)

theorem mod_hi (x : Int) : x % 256 ≤ 255 := Int.le_of_lt_add_one (Int.emod_lt_of_pos _ (by decide))

/-- what is appended to new memory turns nothing old -/
theorem grown_new {w W w1 : World} {C : Nat} {v : Value} (hg : w.grownBy W (some C)) (hk : W.grownBy w1 v.ownBlock) (hv : ∀ g, v.ownBlock = some g → w.heap.size ≤ g) : w.grownBy w1 (some C) :=
  ⟨hk.os.trans hg.os, hk.tape.trans hg.tape, hk.output.trans hg.output, Nat.le_trans hg.size hk.size, fun j hj hne =>
    (hk.block j (Nat.lt_of_lt_of_le hj hg.size) (fun e => by have := hv j e.symm; omega)).trans (hg.block j hj hne)⟩

theorem grown_alloc {w W : World} {C : Nat} (hg : w.grownBy W (some C)) (o : Obj) : w.grownBy (W.alloc o) (some C) :=
  ⟨hg.os, hg.tape, hg.output, Nat.le_trans hg.size (by simp), fun j hj hne => (Below.heap_alloc W o j (Nat.lt_of_lt_of_le hj hg.size)).trans (hg.block j hj hne)⟩

end Go.Proofs.YtphijlknefgkiaaGreatDoor
