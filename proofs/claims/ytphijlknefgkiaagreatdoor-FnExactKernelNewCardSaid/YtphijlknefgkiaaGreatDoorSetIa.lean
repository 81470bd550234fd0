/-
  What is wrong with a set-up, by the program: arePorts, areCodes, greatestPart.
-/
import Derived.Test.YtphijlknefgkiaaGreatDoorFaultM
import Derived.Test.YtphijlknefgkiaaGreatDoorImplP9
import Derived.Test.YtphijlknefgkiaaGreatDoorActI
namespace Go.Proofs.YtphijlknefgkiaaGreatDoor
open Go.RowKit Go.PlainAid
set_option linter.unusedVariables false

set_option maxRecDepth 100000 in
set_option maxHeartbeats 2000000 in
theorem portsI (a : Option Addr) (X : SX) (n cap : Nat) (b : Bool) (hl : X.O.length = n) (hn : n ≤ 1048576) (hb : b = true ↔ PortsX X) (w : World) (hr : RdO w a X.O) :
    Calls Tryz.prog 94 #[.slice a n cap] w fun e w' => e = .returned (.bool b) ∧ Below w.heap.size w w' := by
  have HB : Hid (b = true ↔ PortsX X) := hb
  have HL : Hid (X.O.length = n) := hl
  have HR : Hid (RdO w a X.O) := hr
  clear hb hl hr
  by_cases h6 : 6 < n
  · have HE : Hid (b = false) := by
      cases b
      · rfl
      · have := (HB.out.1 rfl).1
        have := HL.out
        omega
    go_enter Tryz.func94, Tryz.ntmps94
    go_wp2
    go_ret
    exact ⟨by rw [HE.out]; rfl, Below.refl _ _⟩
  · have HB0 : Hid (Below w.heap.size w w) := Below.refl _ _
    go_enter Tryz.func94, Tryz.ntmps94
    go_wp2
    go_loopg [10] n (fun gk i wr => ∃ j : Nat, j + gk = n ∧ i = .int .i64 j ∧ Hid (∀ i (h : i < X.O.length), i < j → prtR X.O[i]) ∧ Hid (Below w.heap.size w wr))
    case atStart => exact ⟨0, by omega, rfl, fun i _ h => by omega, HB0⟩
    case round =>
      clear HB0
      obtain ⟨j, hj, rfl, HI, HW⟩ := hrel
      by_cases hlt : j < n
      · have hjl : j < X.O.length := by have := HL.out; omega
        obtain ⟨g, off, ha, hc⟩ := HR.out (by omega)
        have hgl : g < w.heap.size := World.block_lt_of_cell? w ⟨g, off + j * 5, none⟩ (hc j hjl).1
        subst ha
        have cc := hc j hjl
        have cf0 := (HW.out.cell (p := ⟨g, off + j * 5, none⟩) hgl).trans cc.1
        have cf1 := (HW.out.cell (p := ⟨g, off + j * 5 + 1, none⟩) hgl).trans cc.2.1
        have cf2 := (HW.out.cell (p := ⟨g, off + j * 5 + 2, none⟩) hgl).trans cc.2.2.1
        have cf3 := (HW.out.cell (p := ⟨g, off + j * 5 + 3, none⟩) hgl).trans cc.2.2.2.1
        have cf4 := (HW.out.cell (p := ⟨g, off + j * 5 + 4, none⟩) hgl).trans cc.2.2.2.2
        clear hc cc
        obtain ⟨x0, e0⟩ : ∃ x, (X.O[j]).1 = x := ⟨_, rfl⟩
        obtain ⟨x1, e1⟩ : ∃ x, (X.O[j]).2.1 = x := ⟨_, rfl⟩
        obtain ⟨x2, e2⟩ : ∃ x, (X.O[j]).2.2.1 = x := ⟨_, rfl⟩
        obtain ⟨x3, e3⟩ : ∃ x, (X.O[j]).2.2.2.1 = x := ⟨_, rfl⟩
        obtain ⟨x4, e4⟩ : ∃ x, (X.O[j]).2.2.2.2 = x := ⟨_, rfl⟩
        rw [e0] at cf0
        rw [e1] at cf1
        rw [e2] at cf2
        rw [e3] at cf3
        rw [e4] at cf4
        have HF : Hid (prtR X.O[j] ↔ P.PortR x0 x1 x2 x3 x4) := by
          show _ ↔ _
          unfold prtR
          rw [e0, e1, e2, e3, e4]
        clear e0 e1 e2 e3 e4
        obtain ⟨pb, hpb⟩ := P.port_bool x0 x1 x2 x3 x4
        have HPB : Hid (pb = true ↔ P.PortR x0 x1 x2 x3 x4) := hpb
        clear hpb
        have HWX : Hid (Below w.heap.size w (wr.alloc (.cells #[.int .i64 x0, .int .i64 x1, .int .i64 x2, .int .i64 x3, .int .i64 x4] 88))) := HW.out.alloc HW.out.size _
        go_wp2_with fail
        refine (P.portokI x0 x1 x2 x3 x4 pb HPB.out _).mono ?_
        rintro e w3 ⟨rfl, hb⟩
        have HB3 : Hid (Below w.heap.size w w3) := bel_on (Nat.le_refl _) HWX.out hb
        clear hb HW HWX cf0 cf1 cf2 cf3 cf4
        cases pb
        · have HE : Hid (b = false) := by
            cases b
            · rfl
            · have := HPB.out.2 (HF.out.1 ((HB.out.1 rfl).2 j hjl))
              cases this
          clear HI
          go_wp2
          go_ret
          exact ⟨by rw [HE.out]; rfl, HB3.out⟩
        · have HI' : Hid (∀ i (h : i < X.O.length), i < j + 1 → prtR X.O[i]) := fun i h hi => by
            rcases Nat.lt_or_ge i j with h' | h'
            · exact HI.out i h h'
            · obtain rfl : i = j := by omega
              exact HF.out.2 (HPB.out.1 (by first | rfl | trivial))
          clear HI
          go_wp2
          go_roundg (gk - 1)
          case measure => omega
          case rel => exact ⟨j + 1, by omega, by go_num, HI', HB3⟩
      · have HE : Hid (b = true) := HB.out.2 ⟨by have := HL.out; omega, fun i h => HI.out i h (by have := HL.out; omega)⟩
        clear HI
        go_wp2
        go_ret
        exact ⟨by rw [HE.out]; rfl, HW.out⟩

set_option maxRecDepth 100000 in
set_option maxHeartbeats 2000000 in
theorem codesI (a : Option Addr) (l : List ByteArray) (n cap : Nat) (b : Bool) (hl : l.length = n) (hn : n ≤ 1048576) (hsz : ∀ j (hj : j < l.length), (l[j]).size ≤ 1048576) (hb : b = true ↔ ∀ i (h : i < l.length), I.RcOk l[i]) (w : World) (hr : S.RdS w a l) :
    Calls Tryz.prog 96 #[.slice a n cap] w fun e w' => e = .returned (.bool b) ∧ Below w.heap.size w w' := by
  have HB : Hid (b = true ↔ ∀ i (h : i < l.length), I.RcOk l[i]) := hb
  have HL : Hid (l.length = n) := hl
  have HR : Hid (S.RdS w a l) := hr
  have HSZ : Hid (∀ j (hj : j < l.length), (l[j]).size ≤ 1048576) := hsz
  have HB0 : Hid (Below w.heap.size w w) := Below.refl _ _
  clear hb hl hr hsz
  go_enter Tryz.func96, Tryz.ntmps96
  go_wp2
  go_loopg [9] n (fun gk i wr => ∃ j : Nat, j + gk = n ∧ i = .int .i64 j ∧ Hid (∀ i (h : i < l.length), i < j → I.RcOk l[i]) ∧ Hid (Below w.heap.size w wr))
  case atStart => exact ⟨0, by omega, rfl, fun i _ h => by omega, HB0⟩
  case round =>
    clear HB0
    obtain ⟨j, hj, rfl, HI, HW⟩ := hrel
    by_cases hlt : j < n
    · have hjl : j < l.length := by have := HL.out; omega
      obtain ⟨g, off, ha, hc⟩ := HR.out (by omega)
      have hgl : g < w.heap.size := World.block_lt_of_cell? w ⟨g, off + j, none⟩ (hc j hjl)
      subst ha
      have cf0 := (HW.out.cell (p := ⟨g, off + j, none⟩) hgl).trans (hc j hjl)
      have hs := HSZ.out j hjl
      clear hc
      obtain ⟨x, hx⟩ : ∃ x, l[j] = x := ⟨_, rfl⟩
      rw [hx] at cf0 hs
      have HF : Hid (l[j] = x) := hx
      clear hx
      obtain ⟨cb, hcb⟩ := I.rc_bool x
      have HCB : Hid (cb = true ↔ I.RcOk x) := hcb
      clear hcb
      go_wp2_with fail
      refine (I.readcodeI x hs cb HCB.out _).mono ?_
      rintro e w5 ⟨cv, rfl, _, hb⟩
      have HB5 : Hid (Below w.heap.size w w5) := bel_on (Nat.le_refl _) HW.out hb
      clear hb HW cf0 hs
      cases cb
      · have HE : Hid (b = false) := by
          cases b
          · rfl
          · have h5 := HB.out.1 rfl j hjl
            rw [HF.out] at h5
            have := HCB.out.2 h5
            cases this
        clear HI
        go_wp2
        go_ret
        exact ⟨by rw [HE.out]; rfl, HB5.out⟩
      · have HI' : Hid (∀ i (h : i < l.length), i < j + 1 → I.RcOk l[i]) := fun i h hi => by
          rcases Nat.lt_or_ge i j with h' | h'
          · exact HI.out i h h'
          · obtain rfl : i = j := by omega
            rw [HF.out]
            exact HCB.out.1 (by first | rfl | trivial)
        clear HI
        go_wp2
        go_roundg (gk - 1)
        case measure => omega
        case rel => exact ⟨j + 1, by omega, by go_num, HI', HB5⟩
    · have HE : Hid (b = true) := HB.out.2 (fun i h => HI.out i h (by have := HL.out; omega))
      clear HI
      go_wp2
      go_ret
      exact ⟨by rw [HE.out]; rfl, HW.out⟩
end Go.Proofs.YtphijlknefgkiaaGreatDoor
