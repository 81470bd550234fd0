/-
  Keys as a text with a letter; owned orders while others are marked.
-/
import Derived.Test.YtjaimcmnndejgaaMnL
import Derived.Test.YtjaimcmnndejgaaOrlM
import Derived.Test.YtjaimcmnndejgaaOpenMn
namespace Go.Proofs.Ytjaimcmnndejgaa
open Go.RowKit Go.PlainAid
set_option linter.unusedVariables false

theorem OwnE.grownE {w w' : World} {B g n c C : Nat} {l : List Od4} (h : OwnE w B g n c l) (hg : w.grownBy w' (some C)) (hne : C ≠ g) : OwnE w' B g n c l :=
  h.same (hg.block g h.lt (fun e => hne (Option.some.inj e).symm))
theorem pressAllS' (m : Mn) (ks : List UInt8) (K : ByteArray) (hK : (⟨ks.toArray⟩ : ByteArray) = K) (M : Mn) (l : List Od4) (q : Nat) (hR : allM m ks = (M, l)) (hq : l.length = q) (hl : ks.length ≤ 1048576) (w : World) :
    Calls Try.prog 14 #[mnV m, .string K] w fun e w' => ∃ g c, e = .returned (.tuple #[mnV M, .slice (some ⟨g, 0, none⟩) q c]) ∧ OwnE w' w.heap.size g q c l ∧ Below w.heap.size w w' := by
  subst hK
  exact pressAllS m ks (M, l) q hR hq hl w
end Go.Proofs.Ytjaimcmnndejgaa
