/-
  The contracts of the program's sums.
-/
import Derived.Test.YticlbaopnbddbaaDoorQBase
namespace Go.Proofs.YticlbaopnbddbaaDoor.Q
open Go.RowKit Go.PlainAid
set_option linter.unusedVariables false

/-- the table lies where the program has it -/
def Tab (w : World) : Prop := ∀ r : Nat, r < 16 → w.cell? ⟨0, r, none⟩ = some (.int .u32 (tab r : Nat))

theorem with14 (x : Nat) (hx : x < 4294967296) (c : UInt8) (w : World) (ht : Tab w) :
    Calls Tryd.prog 50 #[.int .u32 (x : Int), .int .u8 (c.toNat : Int)] w fun e w' => e = .returned (.int .u32 (eight (x ^^^ c.toNat) : Nat)) ∧ w' = w := by
  have hc := c.toNat_lt
  have e1 : bits .xor .u32 (x : Int) (c.toNat : Int) = ((x ^^^ c.toNat : Nat) : Int) := u32_xor_nat _ _ hx (by omega)
  have hy := byte_lt hx c
  unfold eight
  generalize x ^^^ c.toNat = y at *
  have e2 : bits .xor .u32 ((y : Int) / 16) (tab (y % 16) : Nat) = (fourH y : Nat) := by rw [show (y : Int) / 16 = ((y / 16 : Nat) : Int) from rfl]; rw [u32_xor_nat _ _ (by omega) (tab_lt _), ← fourH_tab]
  have c2 := ht (y % 16) (by omega)
  have hz := fourH_lt hy
  generalize fourH y = z at *
  have e3 : bits .xor .u32 ((z : Int) / 16) (tab (z % 16) : Nat) = (fourH z : Nat) := by rw [show (z : Int) / 16 = ((z / 16 : Nat) : Int) from rfl]; rw [u32_xor_nat _ _ (by omega) (tab_lt _), ← fourH_tab]
  have c3 := ht (z % 16) (by omega)
  generalize fourH z = u at *
  generalize c.toNat = cn at *
  clear ht
  go_enter Tryd.func50, Tryd.ntmps50
  go_wp2
  go_ret
  exact ⟨rfl, rfl⟩
end Go.Proofs.YticlbaopnbddbaaDoor.Q
