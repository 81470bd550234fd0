/-
  Forward: the contracts of the program's and of the specification's.
-/
import Derived.Test.YthnocibkgpofnaaCodeI
import Derived.ScopeJumps
import Derived.WalkMore
namespace Go.Proofs.Ythnocibkgpofnaa.I
open Go.RowKit Go.PlainAid
set_option linter.unusedVariables false

def goes (op : Int) : Prop := op = 9 ∨ op = 10
/-- code is right, and each jump goes to a place behind it -/
def FwdR (rl : List (Int × Int)) : Prop := CodeR rl ∧ ∀ i (h : i < rl.length), goes rl[i].1 → (i : Int) < rl[i].2
def FwdTo (rl : List (Int × Int)) (j : Nat) : Prop := ∀ i (h : i < rl.length), i < j → goes rl[i].1 → (i : Int) < rl[i].2
theorem fwd_zero (rl : List (Int × Int)) : FwdTo rl 0 := fun i _ h => by omega
theorem fwd_succ {rl : List (Int × Int)} {j : Nat} (h : FwdTo rl j) (hj : j < rl.length) (hr : goes rl[j].1 → (j : Int) < rl[j].2) : FwdTo rl (j + 1) := fun i hi hlt => by
  by_cases e : i = j
  · subst e; exact hr
  · exact h i hi (by omega)
theorem fwd_bool (rl : List (Int × Int)) : ∃ b : Bool, b = true ↔ FwdR rl := by
  by_cases hk : FwdR rl
  · exact ⟨true, ⟨fun _ => hk, fun _ => rfl⟩⟩
  · exact ⟨false, ⟨fun h => (by cases h), fun h => absurd h hk⟩⟩
theorem not_fwd {rl : List (Int × Int)} {b : Bool} (hb : b = true ↔ FwdR rl) (h : ¬ FwdR rl) : b = false := by
  cases b
  · rfl
  · exact absurd (hb.1 rfl) h
theorem goes_ways (op : Int) : op = 9 ∨ op = 10 ∨ ((op == 9) = false ∧ (op == 10) = false) := by
  by_cases h1 : op = 9
  · exact .inl h1
  · by_cases h2 : op = 10
    · exact .inr (.inl h2)
    · exact .inr (.inr ⟨by simpa using h1, by simpa using h2⟩)

theorem isJumpI (op : Int) (b : Bool) (hb : b = true ↔ goes op) (w : World) : Calls Try.prog 47 #[.int .i64 op] w fun e w' => e = .returned (.bool b) ∧ w' = w := by
  rcases goes_ways op with rfl | rfl | ⟨h1, h2⟩
  · obtain rfl : b = true := hb.2 (.inl rfl)
    clear hb
    go_enter Try.func47, Try.ntmps47
    go_wp2
    go_ret
    exact ⟨rfl, rfl⟩
  · obtain rfl : b = true := hb.2 (.inr rfl)
    clear hb
    go_enter Try.func47, Try.ntmps47
    go_wp2
    go_ret
    exact ⟨rfl, rfl⟩
  · obtain rfl : b = false := by
      cases b
      · rfl
      · rcases hb.1 rfl with h | h
        · subst h; simp at h1
        · subst h; simp at h2
    clear hb
    go_enter Try.func47, Try.ntmps47
    go_wp2
    go_ret
    exact ⟨rfl, rfl⟩

theorem goesS (op arg : Int) (b : Bool) (hb : b = true ↔ goes op) (w : World) : Calls Try.prog 39 #[.agg #[.int .i64 op, .int .i64 arg]] w fun e w' => e = .returned (.bool b) ∧ Below w.heap.size w w' := by
  have HW : Hid (Below w.heap.size w (w.alloc (.cells #[.int .i64 op, .int .i64 arg] 51))) := (Below.refl _ _).alloc (Nat.le_refl _) _
  rcases goes_ways op with rfl | rfl | ⟨h1, h2⟩
  · obtain rfl : b = true := hb.2 (.inl rfl)
    clear hb
    go_enter Try.func39, Try.ntmps39
    go_wp2
    go_ret
    exact ⟨rfl, HW.out⟩
  · obtain rfl : b = true := hb.2 (.inr rfl)
    clear hb
    go_enter Try.func39, Try.ntmps39
    go_wp2
    go_ret
    exact ⟨rfl, HW.out⟩
  · obtain rfl : b = false := by
      cases b
      · rfl
      · rcases hb.1 rfl with h | h
        · subst h; simp at h1
        · subst h; simp at h2
    clear hb
    go_enter Try.func39, Try.ntmps39
    go_wp2
    go_ret
    exact ⟨rfl, HW.out⟩
theorem goes_bool (op : Int) : ∃ b : Bool, b = true ↔ goes op := by
  by_cases hk : goes op
  · exact ⟨true, ⟨fun _ => hk, fun _ => rfl⟩⟩
  · exact ⟨false, ⟨fun h => (by cases h), fun h => absurd h hk⟩⟩

set_option maxRecDepth 100000 in
set_option maxHeartbeats 2000000 in
theorem forwardI (a : Option Addr) (rl : List (Int × Int)) (n cap : Nat) (b : Bool) (hl : rl.length = n) (hn : n ≤ 9223372036854775807) (hb : b = true ↔ FwdR rl) (w : World) (hr : RdR w a rl) :
    Calls Try.prog 21 #[.slice a n cap] w fun e w' => e = .returned (.bool b) ∧ Below w.heap.size w w' := by
  have HB : Hid (b = true ↔ FwdR rl) := hb
  have HL : Hid (rl.length = n) := hl
  have HR : Hid (RdR w a rl) := hr
  obtain ⟨c, hc⟩ := code_bool rl
  have HCB : Hid (c = true ↔ CodeR rl) := hc
  clear hb hl hr hc
  go_enter Try.func21, Try.ntmps21
  go_wp2
  refine wp_scope_jumps 0 (fun a' w' => (∃ u0_ u1_ u2_ u3_ u4_ u5_ u6_ u7_ u8_ u9_ u10_ u11_ u12_ u13_ u14_ u15_ u16_ u17_ u18_ u19_ u20_ u21_ u22_ u23_ u24_ u25_ u26_ u27_ : Value, a' = ⟨#[u0_, u1_, u2_, u3_, u4_, u5_, u6_, u7_, u8_, u9_, u10_, u11_, u12_, u13_, u14_, u15_, u16_, u17_, u18_, u19_, u20_, u21_, u22_, u23_, u24_, u25_, u26_, u27_], List.nil⟩) ∧ Below w.heap.size w w' ∧ b = false) (fun _ _ => 0) rfl ?_ ?_
  · go_wp2_with fail
    refine (codeokI a rl n cap c HL.out hn HCB.out _ HR.out).mono ?_
    rintro e w1 ⟨rfl, hb1⟩
    have HW1 : Hid (Below w.heap.size w w1) := hb1
    clear hb1
    cases c
    · have HE : Hid (b = false) := not_fwd HB.out (fun h => by have := HCB.out.2 h.1; cases this)
      go_wp2
      simp only [Exit.jump]
      go_ret
      exact ⟨by rw [HE.out]; rfl, HW1.out⟩
    · have HK : Hid (CodeR rl) := HCB.out.1 rfl
      clear HCB
      go_wp2
      go_loopg [9] n (fun gk i wr => ∃ j : Nat, j + gk = n ∧ i = .int .i64 j ∧ Hid (FwdTo rl j) ∧ Hid (Below w.heap.size w wr))
      case atStart => exact ⟨0, by omega, rfl, fwd_zero rl, HW1⟩
      case round =>
        obtain ⟨j, hj, rfl, HI, HW⟩ := hrel
        clear HW1
        by_cases hlt : j < n
        · have hjl : j < rl.length := by have := HL.out; omega
          obtain ⟨g, off, rfl, hc⟩ := HR.out (by omega)
          have hgl : g < w.heap.size := World.block_lt_of_cell? w ⟨g, off + 0 * 2, none⟩ (hc 0 (by omega)).1
          have c0 := hc j hjl
          have c1 := (HW.out.cell (p := ⟨g, off + j * 2, none⟩) hgl).trans c0.1
          have c2 := (HW.out.cell (p := ⟨g, off + j * 2 + 1, none⟩) hgl).trans c0.2
          clear c0 hc
          obtain ⟨f, hf⟩ : ∃ f, rl[j].1 = f := ⟨_, rfl⟩
          obtain ⟨s, hs⟩ : ∃ s, rl[j].2 = s := ⟨_, rfl⟩
          rw [hf] at c1
          rw [hs] at c2
          have HF : Hid (rl[j].1 = f ∧ rl[j].2 = s) := ⟨hf, hs⟩
          clear hf hs
          obtain ⟨d, hd⟩ := goes_bool f
          go_wp2_with fail
          refine (isJumpI f d hd _).mono ?_
          rintro e w2 ⟨rfl, rfl⟩
          cases d
          · have HI' : Hid (FwdTo rl (j + 1)) := fwd_succ HI.out hjl (fun h => by rw [HF.out.1] at h; have := hd.2 h; cases this)
            clear hd HI
            go_wp2
            go_roundg (gk - 1)
            case measure => omega
            case rel => exact ⟨j + 1, by omega, by go_num, HI', HW⟩
          · have hg : Hid (goes f) := hd.1 rfl
            clear hd
            by_cases hs : s ≤ (j : Int)
            · have HE : Hid (b = false) := not_fwd HB.out (fun h => by have := h.2 j hjl (by rw [HF.out.1]; exact hg.out); rw [HF.out.2] at this; omega)
              go_wp2
              go_step3
              refine ⟨rfl, ⟨_, _, _, _, _, _, _, _, _, _, _, _, _, _, _, _, _, _, _, _, _, _, _, _, _, _, _, _, rfl⟩, HW.out, HE.out⟩
            · have HI' : Hid (FwdTo rl (j + 1)) := fwd_succ HI.out hjl (fun h => by rw [HF.out.2]; omega)
              clear HI
              go_wp2
              go_roundg (gk - 1)
              case measure => omega
              case rel => exact ⟨j + 1, by omega, by go_num, HI', HW⟩
        · have HE : Hid (b = true) := HB.out.2 ⟨HK.out, fun i h => HI.out i h (by have := HL.out; omega)⟩
          go_wp2
          simp only [Exit.jump]
          go_ret
          exact ⟨by rw [HE.out]; rfl, HW.out⟩
  · rintro a' w' ⟨⟨u0_, u1_, u2_, u3_, u4_, u5_, u6_, u7_, u8_, u9_, u10_, u11_, u12_, u13_, u14_, u15_, u16_, u17_, u18_, u19_, u20_, u21_, u22_, u23_, u24_, u25_, u26_, u27_, rfl⟩, hbJ, hbf⟩
    have HW : Hid (Below w.heap.size w w') := hbJ
    have HE : Hid (b = false) := hbf
    clear hbJ hbf
    go_wp2
    simp only [Exit.jump]
    go_ret
    exact ⟨by rw [HE.out]; rfl, HW.out⟩

set_option maxRecDepth 100000 in
set_option maxHeartbeats 2000000 in
theorem forwardS (a : Option Addr) (rl : List (Int × Int)) (n cap : Nat) (b : Bool) (hl : rl.length = n) (hn : n ≤ 9223372036854775807) (hb : b = true ↔ FwdR rl) (w : World) (hr : RdR w a rl) :
    Calls Try.prog 25 #[.slice a n cap] w fun e w' => e = .returned (.bool b) ∧ Below w.heap.size w w' := by
  have HB : Hid (b = true ↔ FwdR rl) := hb
  have HL : Hid (rl.length = n) := hl
  have HR : Hid (RdR w a rl) := hr
  clear hb hl hr
  go_enter Try.func25, Try.ntmps25
  go_wp2
  go_loopg [3] n (fun gk i wr => ∃ j : Nat, j + gk = n ∧ i = .int .i64 j ∧ Hid (FwdTo rl j) ∧ Hid (Below w.heap.size w wr))
  case atStart => exact ⟨0, by omega, rfl, fwd_zero rl, Below.refl _ _⟩
  case round =>
    obtain ⟨j, hj, rfl, HI, HW⟩ := hrel
    by_cases hlt : j < n
    · have hjl : j < rl.length := by have := HL.out; omega
      obtain ⟨g, off, rfl, hc⟩ := HR.out (by omega)
      have hgl : g < w.heap.size := World.block_lt_of_cell? w ⟨g, off + 0 * 2, none⟩ (hc 0 (by omega)).1
      have c0 := hc j hjl
      have c1 := (HW.out.cell (p := ⟨g, off + j * 2, none⟩) hgl).trans c0.1
      have c2 := (HW.out.cell (p := ⟨g, off + j * 2 + 1, none⟩) hgl).trans c0.2
      obtain ⟨f, hf⟩ : ∃ f, rl[j].1 = f := ⟨_, rfl⟩
      obtain ⟨s, hs⟩ : ∃ s, rl[j].2 = s := ⟨_, rfl⟩
      rw [hf] at c1
      rw [hs] at c2
      have HF : Hid (rl[j].1 = f ∧ rl[j].2 = s) := ⟨hf, hs⟩
      have HC : Hid (∀ j (h : j < rl.length), w.cell? ⟨g, off + j * 2, none⟩ = some (.int .i64 rl[j].1) ∧ w.cell? ⟨g, off + j * 2 + 1, none⟩ = some (.int .i64 rl[j].2)) := hc
      clear hf hs c0 hc
      obtain ⟨d, hd⟩ := goes_bool f
      go_wp2_with fail
      refine (goesS f s d hd _).mono ?_
      rintro e w2 ⟨rfl, hb2⟩
      have HW2 : Hid (Below w.heap.size w w2) := HW.out.trans (hb2.mono HW.out.size)
      clear hb2 c1 c2
      have c2 := (HW2.out.cell (p := ⟨g, off + j * 2 + 1, none⟩) hgl).trans (HC.out j hjl).2
      rw [HF.out.2] at c2
      cases d
      · have HI' : Hid (FwdTo rl (j + 1)) := fwd_succ HI.out hjl (fun h => by rw [HF.out.1] at h; have := hd.2 h; cases this)
        clear hd HI
        go_wp2
        go_roundg (gk - 1)
        case measure => omega
        case rel => exact ⟨j + 1, by omega, by go_num, HI', HW2⟩
      · have hg : Hid (goes f) := hd.1 rfl
        clear hd
        by_cases hs : s ≤ (j : Int)
        · have HE : Hid (b = false) := not_fwd HB.out (fun h => by have := h.2 j hjl (by rw [HF.out.1]; exact hg.out); rw [HF.out.2] at this; omega)
          go_wp2
          go_ret
          exact ⟨by rw [HE.out]; rfl, HW2.out⟩
        · have HI' : Hid (FwdTo rl (j + 1)) := fwd_succ HI.out hjl (fun h => by rw [HF.out.2]; omega)
          clear HI
          go_wp2
          go_roundg (gk - 1)
          case measure => omega
          case rel => exact ⟨j + 1, by omega, by go_num, HI', HW2⟩
    · obtain ⟨c, hc⟩ := code_bool rl
      have HE : Hid (b = c) := by
        have h1 := HB.out
        cases b <;> cases c
        · rfl
        · exact h1.2 ⟨hc.1 rfl, fun i h => HI.out i h (by have := HL.out; omega)⟩
        · exact (hc.2 (h1.1 rfl).1).symm
        · rfl
      have HCB : Hid (c = true ↔ CodeR rl) := hc
      clear hc
      go_wp2_with fail
      refine (codeokS a rl n cap c HL.out hn HCB.out _ (HR.out.keep HW.out (Nat.le_refl _))).mono ?_
      rintro e w1 ⟨rfl, rfl⟩
      go_wp2
      go_ret
      exact ⟨by rw [HE.out]; rfl, HW.out⟩
end Go.Proofs.Ythnocibkgpofnaa.I
