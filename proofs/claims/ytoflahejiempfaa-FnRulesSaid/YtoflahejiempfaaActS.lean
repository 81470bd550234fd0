/-
  What is done when it goes wrong: ActFor of the specification.
-/
import Derived.Test.YtoflahejiempfaaActM
namespace Go.Proofs.Ytoflahejiempfaa
open Go.RowKit Go.PlainAid
set_option linter.unusedVariables false

theorem actEnd (x s : Int) : actFin x s = x ∧ ((x == 1) = true → ¬ 3 ≤ s) ∧ ((x == 2) = true → ¬ 3 ≤ s) ∨ actFin x s = 3 ∧ 3 ≤ s ∧ ((x == 1) = true ∨ (x == 1) = false ∧ (x == 2) = true) := by
  unfold actFin
  by_cases h1 : x = 1
  · subst h1
    by_cases h3 : 3 ≤ s
    · exact .inr ⟨if_pos ⟨.inl rfl, h3⟩, h3, .inl rfl⟩
    · exact .inl ⟨if_neg (fun h => h3 h.2), fun _ => h3, fun h => by simp at h⟩
  · by_cases h2 : x = 2
    · subst h2
      by_cases h3 : 3 ≤ s
      · exact .inr ⟨if_pos ⟨.inr rfl, h3⟩, h3, .inr ⟨rfl, rfl⟩⟩
      · exact .inl ⟨if_neg (fun h => h3 h.2), fun h => by simp at h, fun _ => h3⟩
    · exact .inl ⟨if_neg (fun h => h.1.elim h1 h2), fun h => by simp at h; exact absurd h h1, fun h => by simp at h; exact absurd h h2⟩

set_option maxRecDepth 100000 in
set_option maxHeartbeats 2000000 in
theorem actS (a : Option Addr) (l : List Rule) (n cap : Nat) (p f s : Int) (hl : l.length = n) (hn : n ≤ 1048576) (w : World) (hr : RdU w a l) :
    Calls Try.prog 9 #[.slice a n cap, .int .i64 p, .int .i64 f, .int .i64 s] w fun e w' => e = .returned (.int .i64 (actR l p f s)) ∧ Below w.heap.size w w' := by
  have HL : Hid (l.length = n) := hl
  have HR : Hid (RdU w a l) := hr
  have H0 : Hid ((actOf (l.drop n) p f).getD (actBase f) = actBase f) := by
    show _ = _
    rw [List.drop_of_length_le (by omega)]; rfl
  clear hl hr
  have hw1 : IntKind.i64.wrap ((n : Int) - 1) = (n : Int) - 1 := wrap_in (by omega) (by omega)
  obtain ⟨q, hq⟩ : ∃ q, (f == 1) = q := ⟨_, rfl⟩
  have HBs : Hid (actBase f = if q then 3 else 0) := by
    show _ = _
    unfold actBase
    rw [← hq]
    by_cases h : f = 1
    · rw [if_pos h, if_pos (by simpa using h)]
    · rw [if_neg h, if_neg (by simpa using h)]
  cases q
  all_goals
    go_enter Try.func9, Try.ntmps9
    go_wp2
    go_loopg [9, 10] n (fun gk v i wr => gk ≤ n ∧ (∃ x : Int, v = .int .i64 x ∧ Hid (x = (actOf (l.drop gk) p f).getD (actBase f))) ∧ i = .int .i64 ((gk : Int) - 1) ∧ Hid (Below w.heap.size w wr))
    case atStart => exact ⟨Nat.le_refl _, ⟨_, rfl, by show _ = _; rw [H0.out, HBs.out]; rfl⟩, rfl, Below.refl _ _⟩
    case round =>
      clear H0 HBs hw1
      obtain ⟨hle, ⟨x, rfl, HX⟩, rfl, HW⟩ := hrel
      cases gk with
      | zero =>
        have HV : Hid (actR l p f s = actFin x s) := by show _ = _; unfold actR; rw [HX.out]; rfl
        clear HX
        rcases actEnd x s with ⟨e0, e1, e2⟩ | ⟨e0, e1, e2⟩
        · have HE : Hid (actR l p f s = x) := HV.out.trans e0
          clear HV e0
          by_cases h1 : (x == 1) = true
          · have h3 := e1 h1
            clear e1 e2
            go_wp2
            go_ret
            exact ⟨by rw [HE.out]; rfl, HW.out⟩
          · have h1' : (x == 1) = false := by simpa using h1
            clear h1 e1
            by_cases h2 : (x == 2) = true
            · have h3 := e2 h2
              clear e2
              go_wp2
              go_ret
              exact ⟨by rw [HE.out]; rfl, HW.out⟩
            · have h2' : (x == 2) = false := by simpa using h2
              clear h2 e2
              go_wp2
              go_ret
              exact ⟨by rw [HE.out]; rfl, HW.out⟩
        · have HE : Hid (actR l p f s = 3) := HV.out.trans e0
          clear HV e0
          rcases e2 with h1 | ⟨h1, h2⟩
          · go_wp2
            go_ret
            exact ⟨by rw [HE.out]; rfl, HW.out⟩
          · go_wp2
            go_ret
            exact ⟨by rw [HE.out]; rfl, HW.out⟩
      | succ k =>
        have hkl : k < l.length := by have := HL.out; omega
        obtain ⟨g, off, ha, hc⟩ := HR.out (by omega)
        have hgl : g < w.heap.size := World.block_lt_of_cell? w ⟨g, off + k * 3, none⟩ (hc k hkl).1
        subst ha
        have c0 := hc k hkl
        have c1 := (HW.out.cell (p := ⟨g, off + k * 3, none⟩) hgl).trans c0.1
        have c2 := (HW.out.cell (p := ⟨g, off + k * 3 + 1, none⟩) hgl).trans c0.2.1
        have c3 := (HW.out.cell (p := ⟨g, off + k * 3 + 2, none⟩) hgl).trans c0.2.2
        have HD : Hid (actOf (l.drop k) p f = if l[k].1 = p ∧ l[k].2.1 = f then some l[k].2.2 else actOf (l.drop (k + 1)) p f) := actOf_drop hkl p f
        obtain ⟨xf, hf⟩ : ∃ z, l[k].1 = z := ⟨_, rfl⟩
        obtain ⟨xs, hs⟩ : ∃ z, l[k].2.1 = z := ⟨_, rfl⟩
        obtain ⟨xt, ht⟩ : ∃ z, l[k].2.2 = z := ⟨_, rfl⟩
        rw [hf] at c1
        rw [hs] at c2
        rw [ht] at c3
        have HD2 : Hid (actOf (l.drop k) p f = if xf = p ∧ xs = f then some xt else actOf (l.drop (k + 1)) p f) := by
          show _ = _
          rw [HD.out, hf, hs, ht]
        clear HD hf hs ht c0 hc hkl
        have i0 : ((k + 1 : Nat) : Int) - 1 = (k : Int) := by omega
        rw [i0]
        have i1 : (0 : Int) ≤ (k : Int) := by omega
        have i2 : (k : Int) < (n : Int) := by omega
        have hwk : IntKind.i64.wrap ((k : Int) - 1) = (k : Int) - 1 := wrap_in (by omega) (by omega)
        by_cases h1 : xf = p
        · have q1 : (xf == p) = true := by simpa using h1
          by_cases h2 : xs = f
          · have q2 : (xs == f) = true := by simpa using h2
            have HX' : Hid (xt = (actOf (l.drop k) p f).getD (actBase f)) := by
              show _ = _
              rw [HD2.out, if_pos ⟨h1, h2⟩]; rfl
            clear HX HD2 h1 h2
            go_wp2
            go_roundg k
            case measure => omega
            case rel => exact ⟨by omega, ⟨xt, rfl, HX'⟩, by go_num, HW⟩
          · have q2 : (xs == f) = false := by simpa using h2
            have HX' : Hid (x = (actOf (l.drop k) p f).getD (actBase f)) := by
              show _ = _
              rw [HD2.out, if_neg (fun h => h2 h.2)]; exact HX.out
            clear HX HD2 h1 h2
            go_wp2
            go_roundg k
            case measure => omega
            case rel => exact ⟨by omega, ⟨x, rfl, HX'⟩, by go_num, HW⟩
        · have q1 : (xf == p) = false := by simpa using h1
          have HX' : Hid (x = (actOf (l.drop k) p f).getD (actBase f)) := by
            show _ = _
            rw [HD2.out, if_neg (fun h => h1 h.1)]; exact HX.out
          clear HX HD2 h1
          go_wp2
          go_roundg k
          case measure => omega
          case rel => exact ⟨by omega, ⟨x, rfl, HX'⟩, by go_num, HW⟩
end Go.Proofs.Ytoflahejiempfaa
