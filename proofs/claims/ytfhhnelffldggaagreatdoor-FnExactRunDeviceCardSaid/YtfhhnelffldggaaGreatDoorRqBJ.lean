/-
  Take of the specification.
-/
import Derived.Test.YtfhhnelffldggaaGreatDoorRqBG
import Derived.Test.YtfhhnelffldggaaGreatDoorRqBH
import Derived.Test.YtfhhnelffldggaaGreatDoorRqBI
namespace Go.Proofs.YtfhhnelffldggaaGreatDoor
open Go.RowKit Go.PlainAid
set_option linter.unusedVariables false
set_option linter.unusedSimpArgs false
theorem takeS (p : Pm) (K N D V : Int) (w : World) : Calls Tryz.prog 52 #[p.V, ordV K N D V] w fun e w' => e = .returned (.tuple #[(p.take K N D V).1.V, .bool (p.take K N D V).2]) ∧ Below w.heap.size w w' := by
  obtain ⟨s, n, d, r, l, b, g, k⟩ := p
  by_cases hp : Pm.ok ⟨s, n, d, r, l, b, g, k⟩
  · by_cases ho : OrdR K N D V
    · have hs : s = 0 ∨ s = 1 ∨ s = 2 ∨ s = 3 := by have := hp.1; dsimp only at this; omega
      have hb : 0 ≤ b := hp.2.2.2.2.2.1.1
      have hk : K = 1 ∨ K = 2 ∨ K = 3 ∨ K = 4 ∨ K = 5 ∨ K = 6 := by have := ho.bd; omega
      rcases hk with rfl | rfl | rfl | rfl | rfl | rfl
      · rcases hs with rfl | rfl | rfl | rfl
        · exact takeS_1_0 n d r l b g k N D V hp ho w
        · exact takeS_1_1 n d r l b g k N D V hp ho w
        · exact takeS_1_2 n d r l b g k N D V hp ho w
        · exact takeS_1_3 n d r l b g k N D V hp ho w
      · rcases hs with rfl | rfl | rfl | rfl
        · exact takeS_2_0 n d r l b g k N D V hp ho w
        · by_cases hb0 : 0 < b
          · exact takeS_2_1b1 n d r l b g k N D V hp ho hb0 w
          · obtain rfl : b = 0 := by omega
            exact takeS_2_1b0 n d r l g k N D V hp ho w
        · by_cases hb0 : 0 < b
          · exact takeS_2_2b1 n d r l b g k N D V hp ho hb0 w
          · obtain rfl : b = 0 := by omega
            exact takeS_2_2b0 n d r l g k N D V hp ho w
        · exact takeS_2_3 n d r l b g k N D V hp ho w
      · rcases hs with rfl | rfl | rfl | rfl
        · exact takeS_3_0 n d r l b g k N D V hp ho w
        · exact takeS_3_1 n d r l b g k N D V hp ho w
        · exact takeS_3_2 n d r l b g k N D V hp ho w
        · exact takeS_3_3 n d r l b g k N D V hp ho w
      · rcases hs with rfl | rfl | rfl | rfl
        · exact takeS_4_0 n d r l b g k N D V hp ho w
        · exact takeS_4_1 n d r l b g k N D V hp ho w
        · exact takeS_4_2 n d r l b g k N D V hp ho w
        · exact takeS_4_3 n d r l b g k N D V hp ho w
      · rcases hs with rfl | rfl | rfl | rfl
        · exact takeS_5_0 n d r l b g k N D V hp ho w
        · exact takeS_5_1 n d r l b g k N D V hp ho w
        · exact takeS_5_2 n d r l b g k N D V hp ho w
        · exact takeS_5_3 n d r l b g k N D V hp ho w
      · rcases hs with rfl | rfl | rfl | rfl
        · exact takeS_6_0 n d r l b g k N D V hp ho w
        · exact takeS_6_1 n d r l b g k N D V hp ho w
        · exact takeS_6_2 n d r l b g k N D V hp ho w
        · exact takeS_6_3 n d r l b g k N D V hp ho w
    · exact takeS_o s n d r l b g k K N D V hp ho w
  · exact takeS_p s n d r l b g k K N D V hp w
end Go.Proofs.YtfhhnelffldggaaGreatDoor
