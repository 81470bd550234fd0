/-
  Give of the specification.
-/
import Derived.Test.YtpjnmkijndmemaaSpGv1
import Derived.Test.YtpjnmkijndmemaaSpGv2
import Derived.Test.YtpjnmkijndmemaaSpGv3
namespace Go.Proofs.Ytpjnmkijndmemaa
open Go.RowKit Go.PlainAid
set_option linter.unusedVariables false
set_option linter.unusedSimpArgs false

theorem giveS (p : Pm) (a : Int) (w : World) : Calls Try.prog 20 #[p.V, .int .i64 a] w fun e w' => e = .returned (p.give a).V ∧ Below w.heap.size w w' := by
  obtain ⟨s, n, d, r, l, b, g, k⟩ := p
  by_cases hp : Pm.ok ⟨s, n, d, r, l, b, g, k⟩
  · have hs : s = 0 ∨ s = 1 ∨ s = 2 ∨ s = 3 := by have := hp.1; dsimp only at this; omega
    have hrr : ratR n d r := hp.2.1
    have hpl : 0 ≤ l ∧ l ≤ 5000 := hp.2.2.2.1
    have hlp : 0 < l ↔ (s = 1 ∨ (s = 3 ∧ k = 1)) := hp.2.2.2.2.1
    have hpb : 0 ≤ b ∧ b ≤ 100 := hp.2.2.2.2.2.1
    have hpg : 0 ≤ g ∧ g ≤ 1000000000000 := hp.2.2.2.2.2.2.1
    have hw := wants_bd ⟨s, n, d, r, l, b, g, k⟩
    have KP : Hid (∀ w, Calls Try.prog 27 #[.agg #[.int .i64 s, .int .i64 n, .int .i64 d, .int .i64 r, .int .i64 l, .int .i64 b, .int .i64 g, .int .i64 k]] w fun e w' => e = .returned (.bool true) ∧ Below w.heap.size w w') := fun w => pumpokS ⟨s, n, d, r, l, b, g, k⟩ true ⟨fun _ => hp, fun _ => rfl⟩ w
    obtain ⟨W, hW⟩ : ∃ W, Pm.wants ⟨s, n, d, r, l, b, g, k⟩ = W := ⟨_, rfl⟩
    rw [hW] at hw
    have KW : Hid (∀ w, Calls Try.prog 23 #[.agg #[.int .i64 s, .int .i64 n, .int .i64 d, .int .i64 r, .int .i64 l, .int .i64 b, .int .i64 g, .int .i64 k]] w fun e w' => e = .returned (.int .i64 W) ∧ Below w.heap.size w w') := fun w => by rw [← hW]; exact wantsS ⟨s, n, d, r, l, b, g, k⟩ w
    have KR : Hid (∀ w, Calls Try.prog 41 #[.agg #[.int .i64 n, .int .i64 d, .int .i64 r]] w fun e w' => e = .returned (.tuple #[.agg #[.int .i64 n, .int .i64 d, .int .i64 ((r + n) % d)], .int .i64 ((r + n) / d)]) ∧ Below w.heap.size w w') := fun w => by
      have h := stepRS n d r w
      rw [show stepR n d r = (r + n) % d from if_pos hrr, show stepO n d r = (r + n) / d from if_pos hrr] at h
      exact h
    obtain ⟨m, hm⟩ : ∃ m, min a W = m := ⟨_, rfl⟩
    have hm6 : m ≤ 6 := by omega
    rcases hs with rfl | rfl | rfl | rfl
    · exact giveS_0 n d r l b g k a hp w
    · have hT : Pm.give ⟨1, n, d, r, l, b, g, k⟩ a = Pm.giveR ⟨1, n, d, r, l, b, g, k⟩ a := if_pos ⟨ok_yes hp, .inl rfl⟩
      by_cases hneg : m < 0
      · have hx : max m 0 = 0 := by omega
        have hc : min (0 : Int) (min b 3) = 0 := by omega
        have hl0 : ¬ l = 0 := by have := hlp.2 (.inl rfl); omega
        refine giveS_1n n d r l b g k a m W (min b 3) ((r + n) % d) ((r + n) / d) KP KW KR hm rfl hc (by show _ = _; omega) hneg (wrap_in (by omega) (by omega)) (wrap64_in (by omega) (by omega)) (wrap_in (by omega) (by omega)) (wrap64_in (by omega) (by omega)) (wrap_in (by omega) (by omega)) (wrap64_in (by omega) (by omega)) hl0 ?_ w
        show _ = _
        rw [hT]
        unfold Pm.giveR
        simp only [hW, hm, hx, hc]
        simp [hl0]
        omega
      · have hx : max m 0 = m := by omega
        obtain ⟨c, hc⟩ : ∃ c, min m (min b 3) = c := ⟨_, rfl⟩
        have hcb : 0 ≤ c ∧ c ≤ 3 ∧ c ≤ m := by omega
        by_cases hz : l - (m - c) = 0
        · refine giveS_1z n d r l b g k a m W c (min b 3) (b - c) (m - c) (g + m) (min (g + m) 1000000000000) ((r + n) % d) ((r + n) / d) KP KW KR hm rfl hc rfl (by omega) (wrap_in (by omega) (by omega)) (wrap_in (by omega) (by omega)) (wrap_in (by omega) (by omega)) (by rw [hz]; rfl) ?_ w
          show _ = _
          rw [hT]
          unfold Pm.giveR
          simp only [hW, hm, hx, hc]
          simp [hz]
        · refine giveS_1 n d r l b g k a m W c (min b 3) (b - c) (m - c) (l - (m - c)) (g + m) (min (g + m) 1000000000000) ((r + n) % d) ((r + n) / d) KP KW KR hm rfl hc rfl (by omega) (wrap_in (by omega) (by omega)) (wrap_in (by omega) (by omega)) (wrap_in (by omega) (by omega)) (wrap_in (by omega) (by omega)) hz ?_ w
          show _ = _
          rw [hT]
          unfold Pm.giveR
          simp only [hW, hm, hx, hc]
          simp [hz]
    · have hT : Pm.give ⟨2, n, d, r, l, b, g, k⟩ a = Pm.giveR ⟨2, n, d, r, l, b, g, k⟩ a := if_pos ⟨ok_yes hp, .inr rfl⟩
      by_cases hneg : m < 0
      · have hx : max m 0 = 0 := by omega
        have hc : min (0 : Int) (min b 3) = 0 := by omega
        refine giveS_2n n d r l b g k a m W (min b 3) ((r + n) % d) ((r + n) / d) KP KW KR hm rfl hc (by show _ = _; omega) hneg (wrap_in (by omega) (by omega)) (wrap64_in (by omega) (by omega)) (wrap_in (by omega) (by omega)) (wrap64_in (by omega) (by omega)) (wrap_in (by omega) (by omega)) (wrap64_in (by omega) (by omega)) ?_ w
        show _ = _
        rw [hT]
        unfold Pm.giveR
        simp only [hW, hm, hx, hc]
        simp
        omega
      · have hx : max m 0 = m := by omega
        obtain ⟨c, hc⟩ : ∃ c, min m (min b 3) = c := ⟨_, rfl⟩
        have hcb : 0 ≤ c ∧ c ≤ 3 ∧ c ≤ m := by omega
        refine giveS_2 n d r l b g k a m W c (min b 3) (b - c) (g + m) (min (g + m) 1000000000000) ((r + n) % d) ((r + n) / d) KP KW KR hm rfl hc rfl (by omega) (wrap_in (by omega) (by omega)) (wrap_in (by omega) (by omega)) ?_ w
        show _ = _
        rw [hT]
        unfold Pm.giveR
        simp only [hW, hm, hx, hc]
        simp
    · exact giveS_3 n d r l b g k a hp w
  · exact giveS_no s n d r l b g k a hp w
end Go.Proofs.Ytpjnmkijndmemaa
