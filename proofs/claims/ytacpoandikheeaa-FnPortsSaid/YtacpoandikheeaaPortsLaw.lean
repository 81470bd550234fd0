/-
  Proved: for every text of bytes the call of FnPorts returns true: what is told of a drawn port, right or not, is what the specification tells; what is sent to one that is none is not there (texts of more than 1048576 bytes the law itself lets by). No conditions.
-/
import Derived.Test.YtacpoandikheeaaRows
import Derived.Test.YtacpoandikheeaaTakeP
import Derived.Test.YtacpoandikheeaaSpecS8F
import Derived.Test.YtacpoandikheeaaSpecT8
import Derived.Test.YtacpoandikheeaaDrawL8
import Derived.Test.YtacpoandikheeaaRow
import Derived.OpenShut
import Derived.ShutString
import Derived.ChangeOld
import Derived.Below
import Derived.OpenVars
import Derived.Deep.DeepHandedRow
namespace Go.Proofs.Ytacpoandikheeaa.fnPorts
open Go.ChangeShapes Go.WideShapes Go.ChangeAt Go.RowKit Go.PlainAid
open Go.ChangeMaps (open_string shut_string)
set_option linter.unusedVariables false

theorem own : ownKnob Try.prog.godebug = none := by kernel_rfl
theorem laidOut : laidOutB Try.prog = true := by kernel_rfl

theorem sendL_len (b : Bool) (k m : Int) (l : List (Int × Int)) (x y : Int) : (sendL b k m l x y).length ≤ l.length + 1 := by
  unfold sendL
  split
  · split
    · simp
    · split
      · simp
      · omega
  · omega
theorem sendL_in {b : Bool} {k m : Int} {l : List (Int × Int)} {x y : Int} (hl : ∀ p ∈ l, InI p.2) (hy : InI y) : ∀ p ∈ sendL b k m l x y, InI p.2 := by
  intro p hp
  unfold sendL at hp
  split at hp
  · split at hp
    · simp at hp; subst hp; exact hy
    · split at hp
      · rcases List.mem_append.1 hp with h | h
        · exact hl p h
        · simp at h; subst h; exact hy
      · exact hl p hp
  · exact hl p hp
set_option maxRecDepth 100000 in
set_option maxHeartbeats 8000000 in
theorem ports_in (a0 : Option Addr) (len0 cap0 : Nat) (hb : len0 ≤ 1048576) (w : World) (hcode : CodeOk w w.heap.size a0 len0) :
    Calls Try.prog 7 #[.slice a0 len0 cap0] w fun e w' => e = .returned (.bool true) ∧ Below w.heap.size w w' := by
  go_enter Try.func7, Try.ntmps7
  go_wp2_with fail
  refine (big5 a0 len0 cap0 (by omega) _).mono ?_
  rintro e w0 ⟨rfl, rfl⟩
  rw [decide_eq_false (by omega)]
  go_wp2_with fail
  have FW_1 : Hid (Below w0.heap.size w0 (w0)) := Below.refl _ _
  refine (sendD a0 len0 cap0 _ hcode).mono ?_
  rintro e w1 ⟨k, f, t, m, fr, q, c, l, x, y, rfl, hl4, hli, ho1, hq, hc, hy, hb1⟩
  have N_2 : Hid ((w0).heap.size ≤ (w1).heap.size) := (hb1).size
  have FW_3 : Hid (Below w0.heap.size w0 (w1)) := bel_on (Nat.le_refl _) FW_1.out (hb1)
  clear FW_1 hb1
  have FO1_4 : Hid (OwnM (w1) w0.heap.size q l) := ho1
  clear ho1
  obtain ⟨n, hn⟩ : ∃ n, l.length = n := ⟨_, rfl⟩
  rw [hn] at hl4 hq hc ⊢
  obtain ⟨b, hB⟩ := port_bool k f t m fr
  obtain ⟨L, hL⟩ : ∃ L, sendL b k m l x y = L := ⟨_, rfl⟩
  obtain ⟨N, hN⟩ : ∃ N, L.length = N := ⟨_, rfl⟩
  obtain ⟨C, hC⟩ : ∃ C, sendC b k m n = C := ⟨_, rfl⟩
  obtain ⟨L2, hL2⟩ : ∃ L2, takeL b k L = L2 := ⟨_, rfl⟩
  obtain ⟨N2, hN2⟩ : ∃ N2, L2.length = N2 := ⟨_, rfl⟩
  obtain ⟨U, hU⟩ : ∃ U, takeN b L = U := ⟨_, rfl⟩
  obtain ⟨C2, hC2⟩ : ∃ C2, takeC b k fr y L = C2 := ⟨_, rfl⟩
  have hN5 : N ≤ 5 := by rw [← hN, ← hL]; have := sendL_len b k m l x y; omega
  have HPB : Hid (b = true ↔ PortR k f t m fr) := hB
  have HLN : Hid (l.length = n) := hn
  have HLL : Hid (sendL b k m l x y = L) := hL
  have HNN : Hid (L.length = N) := hN
  have HCC : Hid (sendC b k m n = C) := hC
  have HL2 : Hid (takeL b k L = L2) := hL2
  have HN2 : Hid (L2.length = N2) := hN2
  have HU : Hid (takeN b L = U) := hU
  have HC2 : Hid (takeC b k fr y L = C2) := hC2
  have HYI : Hid (InI y) := hy
  have HQQ : Hid (q = none → n = 0 ∧ c = 0) := hq
  have HSI : Hid (∀ p ∈ L, InI p.2) := hid (by rw [← hL]; exact sendL_in hli hy)
  clear hB hn hL hN hC hL2 hN2 hU hC2 hy hq hli
  have N_5 : Hid ((w1).heap.size ≤ (((w1.alloc (.cells #[.int .i64 k, .int .i64 f, .int .i64 t, .int .i64 m, .int .i64 fr] 33)).alloc (.cells #[.slice q n c] 30))).heap.size) := (al2_b w1 (.cells #[.int .i64 k, .int .i64 f, .int .i64 t, .int .i64 m, .int .i64 fr] 33) (.cells #[.slice q n c] 30)).size
  have FW_6 : Hid (Below w0.heap.size w0 (((w1.alloc (.cells #[.int .i64 k, .int .i64 f, .int .i64 t, .int .i64 m, .int .i64 fr] 33)).alloc (.cells #[.slice q n c] 30)))) := bel_on (Nat.le_refl _) FW_3.out (al2_b w1 (.cells #[.int .i64 k, .int .i64 f, .int .i64 t, .int .i64 m, .int .i64 fr] 33) (.cells #[.slice q n c] 30))
  have FO1_7 : Hid (OwnM (((w1.alloc (.cells #[.int .i64 k, .int .i64 f, .int .i64 t, .int .i64 m, .int .i64 fr] 33)).alloc (.cells #[.slice q n c] 30))) w0.heap.size q l) := OwnM.on FO1_4.out (al2_b w1 (.cells #[.int .i64 k, .int .i64 f, .int .i64 t, .int .i64 m, .int .i64 fr] 33) (.cells #[.slice q n c] 30))
  clear FW_3 FO1_4
  have N_8 : Hid (((w1.alloc (.cells #[.int .i64 k, .int .i64 f, .int .i64 t, .int .i64 m, .int .i64 fr] 33)).alloc (.cells #[.slice q n c] 30)).heap.size = w1.heap.size + 2) := al2_s w1 (.cells #[.int .i64 k, .int .i64 f, .int .i64 t, .int .i64 m, .int .i64 fr] 33) (.cells #[.slice q n c] 30)
  have FP_9 : Hid ((((w1.alloc (.cells #[.int .i64 k, .int .i64 f, .int .i64 t, .int .i64 m, .int .i64 fr] 33)).alloc (.cells #[.slice q n c] 30))).heap[w1.heap.size]? = some (.cells #[.int .i64 k, .int .i64 f, .int .i64 t, .int .i64 m, .int .i64 fr] 33)) := al2_1 w1 (.cells #[.int .i64 k, .int .i64 f, .int .i64 t, .int .i64 m, .int .i64 fr] 33) (.cells #[.slice q n c] 30)
  have FL_10 : Hid ((((w1.alloc (.cells #[.int .i64 k, .int .i64 f, .int .i64 t, .int .i64 m, .int .i64 fr] 33)).alloc (.cells #[.slice q n c] 30))).heap[w1.heap.size + 1]? = some (.cells #[.slice q n c] 30)) := al2_2 w1 (.cells #[.int .i64 k, .int .i64 f, .int .i64 t, .int .i64 m, .int .i64 fr] 33) (.cells #[.slice q n c] 30)
  have kP := box5_cells FP_9.out
  have kL := row1_cells FL_10.out
  go_wp2_with fail
  clear kP kL
  refine (sendI k f t m fr x y q l n c b L N C HLN.out (by omega) HPB.out HLL.out HNN.out HCC.out _ FO1_7.out.rd).mono ?_
  rintro e w2 ⟨q2, c2, rfl, ho2, hb2⟩
  have N_11 : Hid ((((w1.alloc (.cells #[.int .i64 k, .int .i64 f, .int .i64 t, .int .i64 m, .int .i64 fr] 33)).alloc (.cells #[.slice q n c] 30))).heap.size ≤ (w2).heap.size) := (hb2).size
  have FW_12 : Hid (Below w0.heap.size w0 (w2)) := bel_on (Nat.le_refl _) FW_6.out (hb2)
  have FO1_13 : Hid (OwnM (w2) w0.heap.size q l) := OwnM.on FO1_7.out (hb2)
  have FP_14 : Hid ((w2).heap[w1.heap.size]? = some (.cells #[.int .i64 k, .int .i64 f, .int .i64 t, .int .i64 m, .int .i64 fr] 33)) := row_on FP_9.out (hb2)
  have FL_15 : Hid ((w2).heap[w1.heap.size + 1]? = some (.cells #[.slice q n c] 30)) := row_on FL_10.out (hb2)
  clear FW_6 FO1_7 FP_9 FL_10
  have FO2_16 : Hid (OwnM (w2) 0 q2 L) := ho2.mono (Nat.zero_le _)
  clear ho2 hb2
  have N_17 : Hid ((w2).heap.size ≤ (w2.alloc (.cells #[.slice q2 N c2] 30)).heap.size) := ((Below.refl (w2).heap.size (w2)).alloc (Nat.le_refl _) (.cells #[.slice q2 N c2] 30)).size
  have FW_18 : Hid (Below w0.heap.size w0 (w2.alloc (.cells #[.slice q2 N c2] 30))) := bel_on (Nat.le_refl _) FW_12.out ((Below.refl (w2).heap.size (w2)).alloc (Nat.le_refl _) (.cells #[.slice q2 N c2] 30))
  have FO1_19 : Hid (OwnM (w2.alloc (.cells #[.slice q2 N c2] 30)) w0.heap.size q l) := OwnM.on FO1_13.out ((Below.refl (w2).heap.size (w2)).alloc (Nat.le_refl _) (.cells #[.slice q2 N c2] 30))
  have FP_20 : Hid ((w2.alloc (.cells #[.slice q2 N c2] 30)).heap[w1.heap.size]? = some (.cells #[.int .i64 k, .int .i64 f, .int .i64 t, .int .i64 m, .int .i64 fr] 33)) := row_on FP_14.out ((Below.refl (w2).heap.size (w2)).alloc (Nat.le_refl _) (.cells #[.slice q2 N c2] 30))
  have FL_21 : Hid ((w2.alloc (.cells #[.slice q2 N c2] 30)).heap[w1.heap.size + 1]? = some (.cells #[.slice q n c] 30)) := row_on FL_15.out ((Below.refl (w2).heap.size (w2)).alloc (Nat.le_refl _) (.cells #[.slice q2 N c2] 30))
  have FO2_22 : Hid (OwnM (w2.alloc (.cells #[.slice q2 N c2] 30)) 0 q2 L) := OwnM.on FO2_16.out ((Below.refl (w2).heap.size (w2)).alloc (Nat.le_refl _) (.cells #[.slice q2 N c2] 30))
  clear FW_12 FO1_13 FP_14 FL_15 FO2_16
  have N_23 : Hid (w2.heap.size < (w2.alloc (.cells #[.slice q2 N c2] 30)).heap.size) := by simp [Hid]
  have FA_24 : Hid ((w2.alloc (.cells #[.slice q2 N c2] 30)).heap[w2.heap.size]? = some (.cells #[.slice q2 N c2] 30)) := heap_new w2 _
  have kP := box5_cells FP_20.out
  have kL := row1_cells FL_21.out
  go_wp2_with fail
  clear kP kL
  refine (sendSpF k f t m fr x y q l n c b L N C HLN.out (by omega) HQQ.out HPB.out HLL.out HNN.out HCC.out _ FO1_19.out.rd).mono ?_
  rintro e w3 ⟨q3, c3, rfl, hc3, hq3, ho3, hb3⟩
  have HQ3 : Hid (q3 = none → N = 0 ∧ c3 = 0) := hq3
  clear hq3
  have N_25 : Hid ((w2.alloc (.cells #[.slice q2 N c2] 30)).heap.size ≤ (w3).heap.size) := (hb3).size
  have FW_26 : Hid (Below w0.heap.size w0 (w3)) := bel_on (Nat.le_refl _) FW_18.out (hb3)
  have FO1_27 : Hid (OwnM (w3) w0.heap.size q l) := OwnM.on FO1_19.out (hb3)
  have FP_28 : Hid ((w3).heap[w1.heap.size]? = some (.cells #[.int .i64 k, .int .i64 f, .int .i64 t, .int .i64 m, .int .i64 fr] 33)) := row_on FP_20.out (hb3)
  have FL_29 : Hid ((w3).heap[w1.heap.size + 1]? = some (.cells #[.slice q n c] 30)) := row_on FL_21.out (hb3)
  have FO2_30 : Hid (OwnM (w3) 0 q2 L) := OwnM.on FO2_22.out (hb3)
  have FA_31 : Hid ((w3).heap[w2.heap.size]? = some (.cells #[.slice q2 N c2] 30)) := row_on FA_24.out (hb3)
  clear FW_18 FO1_19 FP_20 FL_21 FO2_22 FA_24
  have FO3_32 : Hid (OwnM (w3) 0 q3 L) := ho3.mono (Nat.zero_le _)
  clear ho3 hb3
  have N_33 : Hid ((w3).heap.size ≤ (w3.alloc (.cells #[.slice q3 N c3] 30)).heap.size) := ((Below.refl (w3).heap.size (w3)).alloc (Nat.le_refl _) (.cells #[.slice q3 N c3] 30)).size
  have FW_34 : Hid (Below w0.heap.size w0 (w3.alloc (.cells #[.slice q3 N c3] 30))) := bel_on (Nat.le_refl _) FW_26.out ((Below.refl (w3).heap.size (w3)).alloc (Nat.le_refl _) (.cells #[.slice q3 N c3] 30))
  have FO1_35 : Hid (OwnM (w3.alloc (.cells #[.slice q3 N c3] 30)) w0.heap.size q l) := OwnM.on FO1_27.out ((Below.refl (w3).heap.size (w3)).alloc (Nat.le_refl _) (.cells #[.slice q3 N c3] 30))
  have FP_36 : Hid ((w3.alloc (.cells #[.slice q3 N c3] 30)).heap[w1.heap.size]? = some (.cells #[.int .i64 k, .int .i64 f, .int .i64 t, .int .i64 m, .int .i64 fr] 33)) := row_on FP_28.out ((Below.refl (w3).heap.size (w3)).alloc (Nat.le_refl _) (.cells #[.slice q3 N c3] 30))
  have FL_37 : Hid ((w3.alloc (.cells #[.slice q3 N c3] 30)).heap[w1.heap.size + 1]? = some (.cells #[.slice q n c] 30)) := row_on FL_29.out ((Below.refl (w3).heap.size (w3)).alloc (Nat.le_refl _) (.cells #[.slice q3 N c3] 30))
  have FO2_38 : Hid (OwnM (w3.alloc (.cells #[.slice q3 N c3] 30)) 0 q2 L) := OwnM.on FO2_30.out ((Below.refl (w3).heap.size (w3)).alloc (Nat.le_refl _) (.cells #[.slice q3 N c3] 30))
  have FA_39 : Hid ((w3.alloc (.cells #[.slice q3 N c3] 30)).heap[w2.heap.size]? = some (.cells #[.slice q2 N c2] 30)) := row_on FA_31.out ((Below.refl (w3).heap.size (w3)).alloc (Nat.le_refl _) (.cells #[.slice q3 N c3] 30))
  have FO3_40 : Hid (OwnM (w3.alloc (.cells #[.slice q3 N c3] 30)) 0 q3 L) := OwnM.on FO3_32.out ((Below.refl (w3).heap.size (w3)).alloc (Nat.le_refl _) (.cells #[.slice q3 N c3] 30))
  clear FW_26 FO1_27 FP_28 FL_29 FO2_30 FA_31 FO3_32
  have N_41 : Hid (w3.heap.size < (w3.alloc (.cells #[.slice q3 N c3] 30)).heap.size) := by simp [Hid]
  have FB_42 : Hid ((w3.alloc (.cells #[.slice q3 N c3] 30)).heap[w3.heap.size]? = some (.cells #[.slice q3 N c3] 30)) := heap_new w3 _
  have kP := box5_cells FP_36.out
  have kA := row1_cells FA_39.out
  go_wp2_with fail
  clear kP kA
  refine (takeI k f t m fr y q2 L N c2 b L2 N2 U C2 HNN.out (by omega) HPB.out HYI.out HSI.out HL2.out HN2.out HU.out HC2.out _ FO2_38.out.rd).mono ?_
  rintro e w4 ⟨q4, c4, rfl, _, hb4⟩
  have N_43 : Hid ((w3.alloc (.cells #[.slice q3 N c3] 30)).heap.size ≤ (w4).heap.size) := (hb4).size
  have FW_44 : Hid (Below w0.heap.size w0 (w4)) := bel_on (Nat.le_refl _) FW_34.out (hb4)
  have FO1_45 : Hid (OwnM (w4) w0.heap.size q l) := OwnM.on FO1_35.out (hb4)
  have FP_46 : Hid ((w4).heap[w1.heap.size]? = some (.cells #[.int .i64 k, .int .i64 f, .int .i64 t, .int .i64 m, .int .i64 fr] 33)) := row_on FP_36.out (hb4)
  have FL_47 : Hid ((w4).heap[w1.heap.size + 1]? = some (.cells #[.slice q n c] 30)) := row_on FL_37.out (hb4)
  have FO2_48 : Hid (OwnM (w4) 0 q2 L) := OwnM.on FO2_38.out (hb4)
  have FA_49 : Hid ((w4).heap[w2.heap.size]? = some (.cells #[.slice q2 N c2] 30)) := row_on FA_39.out (hb4)
  have FO3_50 : Hid (OwnM (w4) 0 q3 L) := OwnM.on FO3_40.out (hb4)
  have FB_51 : Hid ((w4).heap[w3.heap.size]? = some (.cells #[.slice q3 N c3] 30)) := row_on FB_42.out (hb4)
  clear FW_34 FO1_35 FP_36 FL_37 FO2_38 FA_39 FO3_40 FB_42
  clear hb4
  have N_52 : Hid ((w4).heap.size ≤ (w4.alloc (.cells #[.slice q4 N2 c4] 30)).heap.size) := ((Below.refl (w4).heap.size (w4)).alloc (Nat.le_refl _) (.cells #[.slice q4 N2 c4] 30)).size
  have FW_53 : Hid (Below w0.heap.size w0 (w4.alloc (.cells #[.slice q4 N2 c4] 30))) := bel_on (Nat.le_refl _) FW_44.out ((Below.refl (w4).heap.size (w4)).alloc (Nat.le_refl _) (.cells #[.slice q4 N2 c4] 30))
  have FO1_54 : Hid (OwnM (w4.alloc (.cells #[.slice q4 N2 c4] 30)) w0.heap.size q l) := OwnM.on FO1_45.out ((Below.refl (w4).heap.size (w4)).alloc (Nat.le_refl _) (.cells #[.slice q4 N2 c4] 30))
  have FP_55 : Hid ((w4.alloc (.cells #[.slice q4 N2 c4] 30)).heap[w1.heap.size]? = some (.cells #[.int .i64 k, .int .i64 f, .int .i64 t, .int .i64 m, .int .i64 fr] 33)) := row_on FP_46.out ((Below.refl (w4).heap.size (w4)).alloc (Nat.le_refl _) (.cells #[.slice q4 N2 c4] 30))
  have FL_56 : Hid ((w4.alloc (.cells #[.slice q4 N2 c4] 30)).heap[w1.heap.size + 1]? = some (.cells #[.slice q n c] 30)) := row_on FL_47.out ((Below.refl (w4).heap.size (w4)).alloc (Nat.le_refl _) (.cells #[.slice q4 N2 c4] 30))
  have FO2_57 : Hid (OwnM (w4.alloc (.cells #[.slice q4 N2 c4] 30)) 0 q2 L) := OwnM.on FO2_48.out ((Below.refl (w4).heap.size (w4)).alloc (Nat.le_refl _) (.cells #[.slice q4 N2 c4] 30))
  have FA_58 : Hid ((w4.alloc (.cells #[.slice q4 N2 c4] 30)).heap[w2.heap.size]? = some (.cells #[.slice q2 N c2] 30)) := row_on FA_49.out ((Below.refl (w4).heap.size (w4)).alloc (Nat.le_refl _) (.cells #[.slice q4 N2 c4] 30))
  have FO3_59 : Hid (OwnM (w4.alloc (.cells #[.slice q4 N2 c4] 30)) 0 q3 L) := OwnM.on FO3_50.out ((Below.refl (w4).heap.size (w4)).alloc (Nat.le_refl _) (.cells #[.slice q4 N2 c4] 30))
  have FB_60 : Hid ((w4.alloc (.cells #[.slice q4 N2 c4] 30)).heap[w3.heap.size]? = some (.cells #[.slice q3 N c3] 30)) := row_on FB_51.out ((Below.refl (w4).heap.size (w4)).alloc (Nat.le_refl _) (.cells #[.slice q4 N2 c4] 30))
  clear FW_44 FO1_45 FP_46 FL_47 FO2_48 FA_49 FO3_50 FB_51
  have N_61 : Hid (w4.heap.size < (w4.alloc (.cells #[.slice q4 N2 c4] 30)).heap.size) := by simp [Hid]
  have FD_62 : Hid ((w4.alloc (.cells #[.slice q4 N2 c4] 30)).heap[w4.heap.size]? = some (.cells #[.slice q4 N2 c4] 30)) := heap_new w4 _
  clear FD_62
  have kP := box5_cells FP_55.out
  have kB := row1_cells FB_60.out
  go_wp2_with fail
  clear kP kB
  refine (takeSp k f t m fr y q3 L N c3 b L2 N2 U C2 HNN.out (by omega) hc3 HQ3.out HPB.out HYI.out HSI.out HL2.out HN2.out HU.out HC2.out _ FO3_59.out.rd).mono ?_
  rintro e w5 ⟨q5, c5, rfl, _, hb5⟩
  have N_63 : Hid ((w4.alloc (.cells #[.slice q4 N2 c4] 30)).heap.size ≤ (w5).heap.size) := (hb5).size
  have FW_64 : Hid (Below w0.heap.size w0 (w5)) := bel_on (Nat.le_refl _) FW_53.out (hb5)
  have FO1_65 : Hid (OwnM (w5) w0.heap.size q l) := OwnM.on FO1_54.out (hb5)
  have FP_66 : Hid ((w5).heap[w1.heap.size]? = some (.cells #[.int .i64 k, .int .i64 f, .int .i64 t, .int .i64 m, .int .i64 fr] 33)) := row_on FP_55.out (hb5)
  have FL_67 : Hid ((w5).heap[w1.heap.size + 1]? = some (.cells #[.slice q n c] 30)) := row_on FL_56.out (hb5)
  have FO2_68 : Hid (OwnM (w5) 0 q2 L) := OwnM.on FO2_57.out (hb5)
  have FA_69 : Hid ((w5).heap[w2.heap.size]? = some (.cells #[.slice q2 N c2] 30)) := row_on FA_58.out (hb5)
  have FO3_70 : Hid (OwnM (w5) 0 q3 L) := OwnM.on FO3_59.out (hb5)
  have FB_71 : Hid ((w5).heap[w3.heap.size]? = some (.cells #[.slice q3 N c3] 30)) := row_on FB_60.out (hb5)
  clear FW_53 FO1_54 FP_55 FL_56 FO2_57 FA_58 FO3_59 FB_60
  clear hb5
  have N_72 : Hid ((w5).heap.size ≤ (w5.alloc (.cells #[.slice q5 N2 c5] 30)).heap.size) := ((Below.refl (w5).heap.size (w5)).alloc (Nat.le_refl _) (.cells #[.slice q5 N2 c5] 30)).size
  have FW_73 : Hid (Below w0.heap.size w0 (w5.alloc (.cells #[.slice q5 N2 c5] 30))) := bel_on (Nat.le_refl _) FW_64.out ((Below.refl (w5).heap.size (w5)).alloc (Nat.le_refl _) (.cells #[.slice q5 N2 c5] 30))
  have FO1_74 : Hid (OwnM (w5.alloc (.cells #[.slice q5 N2 c5] 30)) w0.heap.size q l) := OwnM.on FO1_65.out ((Below.refl (w5).heap.size (w5)).alloc (Nat.le_refl _) (.cells #[.slice q5 N2 c5] 30))
  have FP_75 : Hid ((w5.alloc (.cells #[.slice q5 N2 c5] 30)).heap[w1.heap.size]? = some (.cells #[.int .i64 k, .int .i64 f, .int .i64 t, .int .i64 m, .int .i64 fr] 33)) := row_on FP_66.out ((Below.refl (w5).heap.size (w5)).alloc (Nat.le_refl _) (.cells #[.slice q5 N2 c5] 30))
  have FL_76 : Hid ((w5.alloc (.cells #[.slice q5 N2 c5] 30)).heap[w1.heap.size + 1]? = some (.cells #[.slice q n c] 30)) := row_on FL_67.out ((Below.refl (w5).heap.size (w5)).alloc (Nat.le_refl _) (.cells #[.slice q5 N2 c5] 30))
  have FO2_77 : Hid (OwnM (w5.alloc (.cells #[.slice q5 N2 c5] 30)) 0 q2 L) := OwnM.on FO2_68.out ((Below.refl (w5).heap.size (w5)).alloc (Nat.le_refl _) (.cells #[.slice q5 N2 c5] 30))
  have FA_78 : Hid ((w5.alloc (.cells #[.slice q5 N2 c5] 30)).heap[w2.heap.size]? = some (.cells #[.slice q2 N c2] 30)) := row_on FA_69.out ((Below.refl (w5).heap.size (w5)).alloc (Nat.le_refl _) (.cells #[.slice q5 N2 c5] 30))
  have FO3_79 : Hid (OwnM (w5.alloc (.cells #[.slice q5 N2 c5] 30)) 0 q3 L) := OwnM.on FO3_70.out ((Below.refl (w5).heap.size (w5)).alloc (Nat.le_refl _) (.cells #[.slice q5 N2 c5] 30))
  have FB_80 : Hid ((w5.alloc (.cells #[.slice q5 N2 c5] 30)).heap[w3.heap.size]? = some (.cells #[.slice q3 N c3] 30)) := row_on FB_71.out ((Below.refl (w5).heap.size (w5)).alloc (Nat.le_refl _) (.cells #[.slice q5 N2 c5] 30))
  clear FW_64 FO1_65 FP_66 FL_67 FO2_68 FA_69 FO3_70 FB_71
  have N_81 : Hid (w5.heap.size < (w5.alloc (.cells #[.slice q5 N2 c5] 30)).heap.size) := by simp [Hid]
  have FE_82 : Hid ((w5.alloc (.cells #[.slice q5 N2 c5] 30)).heap[w5.heap.size]? = some (.cells #[.slice q5 N2 c5] 30)) := heap_new w5 _
  clear FE_82
  clear FO1_74
  clear FO2_77
  clear FO3_79
  go_wp2_with fail
  generalize hW6 : w5.alloc (.cells #[.slice q5 N2 c5] 30) = w6 at *
  clear hW6
  have HQ : Hid (w6.cell? ⟨w1.heap.size, 0, none⟩ = some (.int .i64 k) ∧ w6.cell? ⟨w1.heap.size, 1, none⟩ = some (.int .i64 f) ∧ w6.cell? ⟨w1.heap.size, 2, none⟩ = some (.int .i64 t) ∧ w6.cell? ⟨w1.heap.size, 3, none⟩ = some (.int .i64 m) ∧ w6.cell? ⟨w1.heap.size, 4, none⟩ = some (.int .i64 fr) ∧ w6.cell? ⟨w1.heap.size + 1, 0, none⟩ = some (.slice q n c) ∧ w6.cell? ⟨w2.heap.size, 0, none⟩ = some (.slice q2 N c2) ∧ w6.cell? ⟨w3.heap.size, 0, none⟩ = some (.slice q3 N c3)) := ⟨(box5_cells FP_75.out).1.1, (box5_cells FP_75.out).1.2.1, (box5_cells FP_75.out).1.2.2.1, (box5_cells FP_75.out).1.2.2.2.1, (box5_cells FP_75.out).1.2.2.2.2, (row1_cells FL_76.out).1, (row1_cells FA_78.out).1, (row1_cells FB_80.out).1⟩
  have HW6 : Hid (Below w0.heap.size w0 w6) := FW_73.out
  clear FP_75
  clear FL_76
  clear FA_78
  clear FB_80
  clear FW_73
  clear HL2 HN2 HU HC2 HYI HSI HQ3 HQQ
  have hCC : (C == C) = true := by simp
  have hUU : (U == U) = true := by simp
  have hCC2 : (C2 == C2) = true := by simp
  have hNN : ((N : Int) == (N : Int)) = true := by simp
  cases b with
  | false =>
    have HPN : Hid (¬ PortR k f t m fr) := fun h => by have := HPB.out.2 h; cases this
    obtain rfl : l = L := by have := HLL.out; unfold sendL at this; simpa using this
    obtain rfl : n = N := by rw [← HNN.out, HLN.out]
    obtain rfl : 1 = C := HCC.out
    clear HPB HLL HNN HLN HCC hCC
    go_region_held3 (fun w' => w'.cell? ⟨w1.heap.size, 0, none⟩ = some (.int .i64 k) ∧ w'.cell? ⟨w1.heap.size, 1, none⟩ = some (.int .i64 f) ∧ w'.cell? ⟨w1.heap.size, 2, none⟩ = some (.int .i64 t) ∧ w'.cell? ⟨w1.heap.size, 3, none⟩ = some (.int .i64 m) ∧ w'.cell? ⟨w1.heap.size, 4, none⟩ = some (.int .i64 fr) ∧ w'.cell? ⟨w1.heap.size + 1, 0, none⟩ = some (.slice q n c) ∧ w'.cell? ⟨w2.heap.size, 0, none⟩ = some (.slice q2 n c2) ∧ w'.cell? ⟨w3.heap.size, 0, none⟩ = some (.slice q3 n c3)) (first | (with_reducible exact q8_keep HQ.out T3.out) | (with_reducible exact q8_keep HQ.out T2.out) | (with_reducible exact q8_keep HQ.out T1.out) | (with_reducible exact q8_keep HQ.out (Below.refl _ _).drew)) (first | (go_at_call 20; (fail_if_success (have hq := T1)); refine (portokI k f t m fr false ⟨(fun h => by cases h), (fun h => absurd h HPN.out)⟩ _).mono ?_; rintro e v1 ⟨rfl, hb1⟩; have T1 : Hid (Below w6.heap.size w6 v1) := hid (undrew hb1)) | (go_at_call 22; refine (portokS k f t m fr false ⟨(fun h => by cases h), (fun h => absurd h HPN.out)⟩ _).mono ?_; rintro e v2 ⟨rfl, hb2⟩; have T2 : Hid (Below w6.heap.size w6 v2) := hid (bel_on (Nat.le_refl _) T1.out hb2)) | (go_at_call 20; refine (portokI k f t m fr false ⟨(fun h => by cases h), (fun h => absurd h HPN.out)⟩ _).mono ?_; rintro e v3 ⟨rfl, hb3⟩; have T3 : Hid (Below w6.heap.size w6 v3) := hid (bel_on (Nat.le_refl _) T2.out hb3)))
    rename_i HH
    have HW7 : Hid (Below w0.heap.size w0 v3) := hid (bel_on (Nat.le_refl _) HW6.out T3.out)
    clear HH hb1 hb2 hb3 T1 T2 T3 HQ HW6
    go_wp2
    go_ret
    exact ⟨rfl, HW7.out⟩
  | true =>
    have HPY : Hid (PortR k f t m fr) := hid (HPB.out.1 rfl)
    clear HPB HLL HNN HLN HCC
    have Q0 : Hid (w6.cell? ⟨w1.heap.size, 0, none⟩ = some (.int .i64 k)) := HQ.out.1
    have Q1 : Hid (w6.cell? ⟨w1.heap.size, 1, none⟩ = some (.int .i64 f)) := HQ.out.2.1
    have Q2 : Hid (w6.cell? ⟨w1.heap.size, 2, none⟩ = some (.int .i64 t)) := HQ.out.2.2.1
    have Q3 : Hid (w6.cell? ⟨w1.heap.size, 3, none⟩ = some (.int .i64 m)) := HQ.out.2.2.2.1
    have Q4 : Hid (w6.cell? ⟨w1.heap.size, 4, none⟩ = some (.int .i64 fr)) := HQ.out.2.2.2.2.1
    have Q5 : Hid (w6.cell? ⟨w1.heap.size + 1, 0, none⟩ = some (.slice q n c)) := HQ.out.2.2.2.2.2.1
    have Q6 : Hid (w6.cell? ⟨w2.heap.size, 0, none⟩ = some (.slice q2 N c2)) := HQ.out.2.2.2.2.2.2.1
    have Q7 : Hid (w6.cell? ⟨w3.heap.size, 0, none⟩ = some (.slice q3 N c3)) := HQ.out.2.2.2.2.2.2.2
    clear HQ
    refine wp_region_held_drew (S := fun w' => Below w6.heap.size w6 w') (by kernel_rfl) (Below.refl _ _).drew (fun hHeld => ?_)
    refine wpAnyH_take (i := 0) (v := ?_) rfl (by kernel_rfl) (by kernel_rfl) (by kernel_rfl) (fun _ _ _ h => h) (Or.inl ⟨by rfl, ?_⟩) (by assumption) ?_
    rotate_left
    · intro w_ hSw; (try dsimp only at hSw); have q0_ := cell_on Q0.out hSw; have q1_ := cell_on Q1.out hSw; have q2_ := cell_on Q2.out hSw; have q3_ := cell_on Q3.out hSw; have q4_ := cell_on Q4.out hSw; have q5_ := cell_on Q5.out hSw; have q6_ := cell_on Q6.out hSw; have q7_ := cell_on Q7.out hSw; go_simp <;> with_reducible rfl
    try simp only [Act.put, List.setIfInBounds_toArray, List.set_cons_zero, List.set_cons_succ, List.getElem_toArray, List.getElem_cons_zero]
    refine wpAnyH_take (i := 2) (v := ?_) rfl (by kernel_rfl) (by kernel_rfl) (by kernel_rfl) (fun _ _ _ h => h) (Or.inl ⟨by rfl, ?_⟩) (by assumption) ?_
    rotate_left
    · intro w_ hSw; (try dsimp only at hSw); have q0_ := cell_on Q0.out hSw; have q1_ := cell_on Q1.out hSw; have q2_ := cell_on Q2.out hSw; have q3_ := cell_on Q3.out hSw; have q4_ := cell_on Q4.out hSw; have q5_ := cell_on Q5.out hSw; have q6_ := cell_on Q6.out hSw; have q7_ := cell_on Q7.out hSw; go_simp <;> with_reducible rfl
    try simp only [Act.put, List.setIfInBounds_toArray, List.set_cons_zero, List.set_cons_succ, List.getElem_toArray, List.getElem_cons_zero, List.getElem_cons_succ]
    refine wpAnyH_ready (rs := [1]) (by kernel_rfl) (by simp) ?_
    refine AllReadyH.cons rfl (fun K hK => ?_) AllReadyH.nil
    go_simp
    go_at_call 20
    refine (portokI k f t m fr true ⟨(fun _ => HPY.out), (fun _ => rfl)⟩ _).mono ?_
    rintro e v1 ⟨rfl, hb1⟩
    have T1 : Hid (Below w6.heap.size w6 v1) := hid (undrew hb1)
    go_wp2_with fail
    refine hK.out _ _ ?_ (fun hHeld => ?_)
    · exact T1.out
    clear hK K hb1
    try simp only [Act.put, List.setIfInBounds_toArray, List.set_cons_zero, List.set_cons_succ, List.getElem_toArray, List.getElem_cons_zero, List.getElem_cons_succ]
    refine wpAnyH_ready (rs := [3]) (by kernel_rfl) (by simp) ?_
    refine AllReadyH.cons rfl (fun K hK => ?_) AllReadyH.nil
    go_simp
    go_at_call 22
    refine (portokS k f t m fr true ⟨(fun _ => HPY.out), (fun _ => rfl)⟩ _).mono ?_
    rintro e v2 ⟨rfl, hb2⟩
    have T2 : Hid (Below w6.heap.size w6 v2) := hid (bel_on (Nat.le_refl _) T1.out hb2)
    go_wp2_with fail
    refine hK.out _ _ ?_ (fun hHeld => ?_)
    · exact T2.out
    clear hK K hb2
    try simp only [Act.put, List.setIfInBounds_toArray, List.set_cons_zero, List.set_cons_succ, List.getElem_toArray, List.getElem_cons_zero, List.getElem_cons_succ]
    refine wpAnyH_take (i := 4) (v := ?_) rfl (by kernel_rfl) (by kernel_rfl) (by kernel_rfl) (fun _ _ _ h => h) (Or.inl ⟨by rfl, ?_⟩) (by assumption) ?_
    rotate_left
    · intro w_ hSw; (try dsimp only at hSw); go_simp <;> with_reducible rfl
    try simp only [Act.put, List.setIfInBounds_toArray, List.set_cons_zero, List.set_cons_succ, List.getElem_toArray, List.getElem_cons_zero, List.getElem_cons_succ]
    refine wpAnyH_take (i := 5) (v := ?_) rfl (by kernel_rfl) (by kernel_rfl) (by kernel_rfl) (fun _ _ _ h => h) (Or.inl ⟨by rfl, ?_⟩) (by assumption) ?_
    rotate_left
    · intro w_ hSw; (try dsimp only at hSw); go_simp <;> with_reducible rfl
    try simp only [Act.put, List.setIfInBounds_toArray, List.set_cons_zero, List.set_cons_succ, List.getElem_toArray, List.getElem_cons_zero, List.getElem_cons_succ]
    refine wpAnyH_take (i := 6) (v := ?_) rfl (by kernel_rfl) (by kernel_rfl) (by kernel_rfl) (fun _ _ _ h => h) (Or.inl ⟨by rfl, ?_⟩) (by assumption) ?_
    rotate_left
    · intro w_ hSw; (try dsimp only at hSw); go_simp <;> with_reducible rfl
    try simp only [Act.put, List.setIfInBounds_toArray, List.set_cons_zero, List.set_cons_succ, List.getElem_toArray, List.getElem_cons_zero, List.getElem_cons_succ]
    refine wpAnyH_take (i := 7) (v := ?_) rfl (by kernel_rfl) (by kernel_rfl) (by kernel_rfl) (fun _ _ _ h => h) (Or.inl ⟨by rfl, ?_⟩) (by assumption) ?_
    rotate_left
    · intro w_ hSw; (try dsimp only at hSw); go_simp <;> with_reducible rfl
    try simp only [Act.put, List.setIfInBounds_toArray, List.set_cons_zero, List.set_cons_succ, List.getElem_toArray, List.getElem_cons_zero, List.getElem_cons_succ]
    refine wpAnyH_take (i := 8) (v := ?_) rfl (by kernel_rfl) (by kernel_rfl) (by kernel_rfl) (fun _ _ _ h => h) (Or.inl ⟨by rfl, ?_⟩) (by assumption) ?_
    rotate_left
    · intro w_ hSw; (try dsimp only at hSw); go_simp <;> with_reducible rfl
    try simp only [Act.put, List.setIfInBounds_toArray, List.set_cons_zero, List.set_cons_succ, List.getElem_toArray, List.getElem_cons_zero, List.getElem_cons_succ]
    refine wpAnyH_take (i := 9) (v := ?_) rfl (by kernel_rfl) (by kernel_rfl) (by kernel_rfl) (fun _ _ _ h => h) (Or.inl ⟨by rfl, ?_⟩) (by assumption) ?_
    rotate_left
    · intro w_ hSw; (try dsimp only at hSw); go_simp <;> with_reducible rfl
    try simp only [Act.put, List.setIfInBounds_toArray, List.set_cons_zero, List.set_cons_succ, List.getElem_toArray, List.getElem_cons_zero, List.getElem_cons_succ]
    refine wpAnyH_take (i := 10) (v := ?_) rfl (by kernel_rfl) (by kernel_rfl) (by kernel_rfl) (fun _ _ _ h => h) (Or.inl ⟨by rfl, ?_⟩) (by assumption) ?_
    rotate_left
    · intro w_ hSw; (try dsimp only at hSw); go_simp <;> with_reducible rfl
    try simp only [Act.put, List.setIfInBounds_toArray, List.set_cons_zero, List.set_cons_succ, List.getElem_toArray, List.getElem_cons_zero, List.getElem_cons_succ]
    refine wpAnyH_take (i := 11) (v := ?_) rfl (by kernel_rfl) (by kernel_rfl) (by kernel_rfl) (fun _ _ _ h => h) (Or.inl ⟨by rfl, ?_⟩) (by assumption) ?_
    rotate_left
    · intro w_ hSw; (try dsimp only at hSw); go_simp <;> with_reducible rfl
    try simp only [Act.put, List.setIfInBounds_toArray, List.set_cons_zero, List.set_cons_succ, List.getElem_toArray, List.getElem_cons_zero, List.getElem_cons_succ]
    refine wpAnyH_take (i := 12) (v := ?_) rfl (by kernel_rfl) (by kernel_rfl) (by kernel_rfl) (fun _ _ _ h => h) (Or.inl ⟨by rfl, ?_⟩) (by assumption) ?_
    rotate_left
    · intro w_ hSw; (try dsimp only at hSw); have q0_ := cell_on Q0.out hSw; have q1_ := cell_on Q1.out hSw; have q2_ := cell_on Q2.out hSw; have q3_ := cell_on Q3.out hSw; have q4_ := cell_on Q4.out hSw; have q5_ := cell_on Q5.out hSw; have q6_ := cell_on Q6.out hSw; have q7_ := cell_on Q7.out hSw; go_simp <;> with_reducible rfl
    try simp only [Act.put, List.setIfInBounds_toArray, List.set_cons_zero, List.set_cons_succ, List.getElem_toArray, List.getElem_cons_zero, List.getElem_cons_succ]
    refine wpAnyH_take (i := 13) (v := ?_) rfl (by kernel_rfl) (by kernel_rfl) (by kernel_rfl) (fun _ _ _ h => h) (Or.inl ⟨by rfl, ?_⟩) (by assumption) ?_
    rotate_left
    · intro w_ hSw; (try dsimp only at hSw); go_simp <;> with_reducible rfl
    try simp only [Act.put, List.setIfInBounds_toArray, List.set_cons_zero, List.set_cons_succ, List.getElem_toArray, List.getElem_cons_zero, List.getElem_cons_succ]
    refine wpAnyH_take (i := 14) (v := ?_) rfl (by kernel_rfl) (by kernel_rfl) (by kernel_rfl) (fun _ _ _ h => h) (Or.inl ⟨by rfl, ?_⟩) (by assumption) ?_
    rotate_left
    · intro w_ hSw; (try dsimp only at hSw); go_simp <;> with_reducible rfl
    try simp only [Act.put, List.setIfInBounds_toArray, List.set_cons_zero, List.set_cons_succ, List.getElem_toArray, List.getElem_cons_zero, List.getElem_cons_succ]
    refine wpAnyH_take (i := 15) (v := ?_) rfl (by kernel_rfl) (by kernel_rfl) (by kernel_rfl) (fun _ _ _ h => h) (Or.inl ⟨by rfl, ?_⟩) (by assumption) ?_
    rotate_left
    · intro w_ hSw; (try dsimp only at hSw); have q0_ := cell_on Q0.out hSw; have q1_ := cell_on Q1.out hSw; have q2_ := cell_on Q2.out hSw; have q3_ := cell_on Q3.out hSw; have q4_ := cell_on Q4.out hSw; have q5_ := cell_on Q5.out hSw; have q6_ := cell_on Q6.out hSw; have q7_ := cell_on Q7.out hSw; go_simp <;> with_reducible rfl
    try simp only [Act.put, List.setIfInBounds_toArray, List.set_cons_zero, List.set_cons_succ, List.getElem_toArray, List.getElem_cons_zero, List.getElem_cons_succ]
    refine wpAnyH_take (i := 16) (v := ?_) rfl (by kernel_rfl) (by kernel_rfl) (by kernel_rfl) (fun _ _ _ h => h) (Or.inl ⟨by rfl, ?_⟩) (by assumption) ?_
    rotate_left
    · intro w_ hSw; (try dsimp only at hSw); go_simp <;> with_reducible rfl
    try simp only [Act.put, List.setIfInBounds_toArray, List.set_cons_zero, List.set_cons_succ, List.getElem_toArray, List.getElem_cons_zero, List.getElem_cons_succ]
    refine wpAnyH_take (i := 17) (v := ?_) rfl (by kernel_rfl) (by kernel_rfl) (by kernel_rfl) (fun _ _ _ h => h) (Or.inl ⟨by rfl, ?_⟩) (by assumption) ?_
    rotate_left
    · intro w_ hSw; (try dsimp only at hSw); go_simp <;> with_reducible rfl
    try simp only [Act.put, List.setIfInBounds_toArray, List.set_cons_zero, List.set_cons_succ, List.getElem_toArray, List.getElem_cons_zero, List.getElem_cons_succ]
    refine wpAnyH_take (i := 18) (v := ?_) rfl (by kernel_rfl) (by kernel_rfl) (by kernel_rfl) (fun _ _ _ h => h) (Or.inl ⟨by rfl, ?_⟩) (by assumption) ?_
    rotate_left
    · intro w_ hSw; (try dsimp only at hSw); go_simp <;> with_reducible rfl
    try simp only [Act.put, List.setIfInBounds_toArray, List.set_cons_zero, List.set_cons_succ, List.getElem_toArray, List.getElem_cons_zero, List.getElem_cons_succ]
    refine wpAnyH_take (i := 19) (v := ?_) rfl (by kernel_rfl) (by kernel_rfl) (by kernel_rfl) (fun _ _ _ h => h) (Or.inl ⟨by rfl, ?_⟩) (by assumption) ?_
    rotate_left
    · intro w_ hSw; (try dsimp only at hSw); go_simp <;> with_reducible rfl
    try simp only [Act.put, List.setIfInBounds_toArray, List.set_cons_zero, List.set_cons_succ, List.getElem_toArray, List.getElem_cons_zero, List.getElem_cons_succ]
    refine wpAnyH_take (i := 20) (v := ?_) rfl (by kernel_rfl) (by kernel_rfl) (by kernel_rfl) (fun _ _ _ h => h) (Or.inl ⟨by rfl, ?_⟩) (by assumption) ?_
    rotate_left
    · intro w_ hSw; (try dsimp only at hSw); go_simp <;> with_reducible rfl
    try simp only [Act.put, List.setIfInBounds_toArray, List.set_cons_zero, List.set_cons_succ, List.getElem_toArray, List.getElem_cons_zero, List.getElem_cons_succ]
    refine wpAnyH_take (i := 21) (v := ?_) rfl (by kernel_rfl) (by kernel_rfl) (by kernel_rfl) (fun _ _ _ h => h) (Or.inl ⟨by rfl, ?_⟩) (by assumption) ?_
    rotate_left
    · intro w_ hSw; (try dsimp only at hSw); go_simp <;> with_reducible rfl
    try simp only [Act.put, List.setIfInBounds_toArray, List.set_cons_zero, List.set_cons_succ, List.getElem_toArray, List.getElem_cons_zero, List.getElem_cons_succ]
    refine wpAnyH_take (i := 22) (v := ?_) rfl (by kernel_rfl) (by kernel_rfl) (by kernel_rfl) (fun _ _ _ h => h) (Or.inl ⟨by rfl, ?_⟩) (by assumption) ?_
    rotate_left
    · intro w_ hSw; (try dsimp only at hSw); go_simp <;> with_reducible rfl
    try simp only [Act.put, List.setIfInBounds_toArray, List.set_cons_zero, List.set_cons_succ, List.getElem_toArray, List.getElem_cons_zero, List.getElem_cons_succ]
    refine wpAnyH_take (i := 23) (v := ?_) rfl (by kernel_rfl) (by kernel_rfl) (by kernel_rfl) (fun _ _ _ h => h) (Or.inl ⟨by rfl, ?_⟩) (by assumption) ?_
    rotate_left
    · intro w_ hSw; (try dsimp only at hSw); go_simp <;> with_reducible rfl
    try simp only [Act.put, List.setIfInBounds_toArray, List.set_cons_zero, List.set_cons_succ, List.getElem_toArray, List.getElem_cons_zero, List.getElem_cons_succ]
    refine wpAnyH_take (i := 24) (v := ?_) rfl (by kernel_rfl) (by kernel_rfl) (by kernel_rfl) (fun _ _ _ h => h) (Or.inl ⟨by rfl, ?_⟩) (by assumption) ?_
    rotate_left
    · intro w_ hSw; (try dsimp only at hSw); go_simp <;> with_reducible rfl
    try simp only [Act.put, List.setIfInBounds_toArray, List.set_cons_zero, List.set_cons_succ, List.getElem_toArray, List.getElem_cons_zero, List.getElem_cons_succ]
    refine wpAnyH_take (i := 25) (v := ?_) rfl (by kernel_rfl) (by kernel_rfl) (by kernel_rfl) (fun _ _ _ h => h) (Or.inl ⟨by rfl, ?_⟩) (by assumption) ?_
    rotate_left
    · intro w_ hSw; (try dsimp only at hSw); go_simp <;> with_reducible rfl
    try simp only [Act.put, List.setIfInBounds_toArray, List.set_cons_zero, List.set_cons_succ, List.getElem_toArray, List.getElem_cons_zero, List.getElem_cons_succ]
    refine wpAnyH_take (i := 26) (v := ?_) rfl (by kernel_rfl) (by kernel_rfl) (by kernel_rfl) (fun _ _ _ h => h) (Or.inl ⟨by rfl, ?_⟩) (by assumption) ?_
    rotate_left
    · intro w_ hSw; (try dsimp only at hSw); go_simp <;> with_reducible rfl
    try simp only [Act.put, List.setIfInBounds_toArray, List.set_cons_zero, List.set_cons_succ, List.getElem_toArray, List.getElem_cons_zero, List.getElem_cons_succ]
    refine wpAnyH_take (i := 27) (v := ?_) rfl (by kernel_rfl) (by kernel_rfl) (by kernel_rfl) (fun _ _ _ h => h) (Or.inl ⟨by rfl, ?_⟩) (by assumption) ?_
    rotate_left
    · intro w_ hSw; (try dsimp only at hSw); go_simp <;> with_reducible rfl
    try simp only [Act.put, List.setIfInBounds_toArray, List.set_cons_zero, List.set_cons_succ, List.getElem_toArray, List.getElem_cons_zero, List.getElem_cons_succ]
    refine wpAnyH_take (i := 28) (v := ?_) rfl (by kernel_rfl) (by kernel_rfl) (by kernel_rfl) (fun _ _ _ h => h) (Or.inl ⟨by rfl, ?_⟩) (by assumption) ?_
    rotate_left
    · intro w_ hSw; (try dsimp only at hSw); go_simp <;> with_reducible rfl
    try simp only [Act.put, List.setIfInBounds_toArray, List.set_cons_zero, List.set_cons_succ, List.getElem_toArray, List.getElem_cons_zero, List.getElem_cons_succ]
    refine wpAnyH_take (i := 29) (v := ?_) rfl (by kernel_rfl) (by kernel_rfl) (by kernel_rfl) (fun _ _ _ h => h) (Or.inl ⟨by rfl, ?_⟩) (by assumption) ?_
    rotate_left
    · intro w_ hSw; (try dsimp only at hSw); go_simp <;> with_reducible rfl
    try simp only [Act.put, List.setIfInBounds_toArray, List.set_cons_zero, List.set_cons_succ, List.getElem_toArray, List.getElem_cons_zero, List.getElem_cons_succ]
    refine wpAnyH_take (i := 30) (v := ?_) rfl (by kernel_rfl) (by kernel_rfl) (by kernel_rfl) (fun _ _ _ h => h) (Or.inl ⟨by rfl, ?_⟩) (by assumption) ?_
    rotate_left
    · intro w_ hSw; (try dsimp only at hSw); have q0_ := cell_on Q0.out hSw; have q1_ := cell_on Q1.out hSw; have q2_ := cell_on Q2.out hSw; have q3_ := cell_on Q3.out hSw; have q4_ := cell_on Q4.out hSw; have q5_ := cell_on Q5.out hSw; have q6_ := cell_on Q6.out hSw; have q7_ := cell_on Q7.out hSw; go_simp <;> with_reducible rfl
    try simp only [Act.put, List.setIfInBounds_toArray, List.set_cons_zero, List.set_cons_succ, List.getElem_toArray, List.getElem_cons_zero, List.getElem_cons_succ]
    refine wpAnyH_ready (rs := [31]) (by kernel_rfl) (by simp) ?_
    refine AllReadyH.cons rfl (fun K hK => ?_) AllReadyH.nil
    go_simp
    go_at_call 20
    refine (portokI k f t m fr true ⟨(fun _ => HPY.out), (fun _ => rfl)⟩ _).mono ?_
    rintro e v3 ⟨rfl, hb3⟩
    have T3 : Hid (Below w6.heap.size w6 v3) := hid (bel_on (Nat.le_refl _) T2.out hb3)
    go_wp2_with fail
    refine hK.out _ _ ?_ (fun hHeld => ?_)
    · exact T3.out
    clear hK K hb3
    try simp only [Act.put, List.setIfInBounds_toArray, List.set_cons_zero, List.set_cons_succ, List.getElem_toArray, List.getElem_cons_zero, List.getElem_cons_succ]
    refine wpAnyH_take (i := 32) (v := ?_) rfl (by kernel_rfl) (by kernel_rfl) (by kernel_rfl) (fun _ _ _ h => h) (Or.inl ⟨by rfl, ?_⟩) (by assumption) ?_
    rotate_left
    · intro w_ hSw; (try dsimp only at hSw); go_simp <;> with_reducible rfl
    try simp only [Act.put, List.setIfInBounds_toArray, List.set_cons_zero, List.set_cons_succ, List.getElem_toArray, List.getElem_cons_zero, List.getElem_cons_succ]
    refine wpAnyH_take (i := 33) (v := undef) rfl (by kernel_rfl) (by kernel_rfl) (by kernel_rfl) (fun _ _ _ h => h) (Or.inr ⟨by rfl, rfl⟩) (by assumption) ?_
    try simp only [Act.put, List.setIfInBounds_toArray, List.set_cons_zero, List.set_cons_succ, List.getElem_toArray, List.getElem_cons_zero, List.getElem_cons_succ]
    refine wpAnyH_take (i := 34) (v := undef) rfl (by kernel_rfl) (by kernel_rfl) (by kernel_rfl) (fun _ _ _ h => h) (Or.inr ⟨by rfl, rfl⟩) (by assumption) ?_
    try simp only [Act.put, List.setIfInBounds_toArray, List.set_cons_zero, List.set_cons_succ, List.getElem_toArray, List.getElem_cons_zero, List.getElem_cons_succ]
    refine wpAnyH_take (i := 35) (v := undef) rfl (by kernel_rfl) (by kernel_rfl) (by kernel_rfl) (fun _ _ _ h => h) (Or.inr ⟨by rfl, rfl⟩) (by assumption) ?_
    try simp only [Act.put, List.setIfInBounds_toArray, List.set_cons_zero, List.set_cons_succ, List.getElem_toArray, List.getElem_cons_zero, List.getElem_cons_succ]
    refine wpAnyH_take (i := 36) (v := undef) rfl (by kernel_rfl) (by kernel_rfl) (by kernel_rfl) (fun _ _ _ h => h) (Or.inr ⟨by rfl, rfl⟩) (by assumption) ?_
    try simp only [Act.put, List.setIfInBounds_toArray, List.set_cons_zero, List.set_cons_succ, List.getElem_toArray, List.getElem_cons_zero, List.getElem_cons_succ]
    refine wpAnyH_take (i := 37) (v := undef) rfl (by kernel_rfl) (by kernel_rfl) (by kernel_rfl) (fun _ _ _ h => h) (Or.inr ⟨by rfl, rfl⟩) (by assumption) ?_
    try simp only [Act.put, List.setIfInBounds_toArray, List.set_cons_zero, List.set_cons_succ, List.getElem_toArray, List.getElem_cons_zero, List.getElem_cons_succ]
    refine wpAnyH_take (i := 38) (v := undef) rfl (by kernel_rfl) (by kernel_rfl) (by kernel_rfl) (fun _ _ _ h => h) (Or.inr ⟨by rfl, rfl⟩) (by assumption) ?_
    try simp only [Act.put, List.setIfInBounds_toArray, List.set_cons_zero, List.set_cons_succ, List.getElem_toArray, List.getElem_cons_zero, List.getElem_cons_succ]
    refine wpAnyH_take (i := 39) (v := undef) rfl (by kernel_rfl) (by kernel_rfl) (by kernel_rfl) (fun _ _ _ h => h) (Or.inr ⟨by rfl, rfl⟩) (by assumption) ?_
    try simp only [Act.put, List.setIfInBounds_toArray, List.set_cons_zero, List.set_cons_succ, List.getElem_toArray, List.getElem_cons_zero, List.getElem_cons_succ]
    refine wpAnyH_take (i := 40) (v := undef) rfl (by kernel_rfl) (by kernel_rfl) (by kernel_rfl) (fun _ _ _ h => h) (Or.inr ⟨by rfl, rfl⟩) (by assumption) ?_
    try simp only [Act.put, List.setIfInBounds_toArray, List.set_cons_zero, List.set_cons_succ, List.getElem_toArray, List.getElem_cons_zero, List.getElem_cons_succ]
    refine wpAnyH_take (i := 41) (v := undef) rfl (by kernel_rfl) (by kernel_rfl) (by kernel_rfl) (fun _ _ _ h => h) (Or.inr ⟨by rfl, rfl⟩) (by assumption) ?_
    try simp only [Act.put, List.setIfInBounds_toArray, List.set_cons_zero, List.set_cons_succ, List.getElem_toArray, List.getElem_cons_zero, List.getElem_cons_succ]
    refine wpAnyH_take (i := 42) (v := undef) rfl (by kernel_rfl) (by kernel_rfl) (by kernel_rfl) (fun _ _ _ h => h) (Or.inr ⟨by rfl, rfl⟩) (by assumption) ?_
    try simp only [Act.put, List.setIfInBounds_toArray, List.set_cons_zero, List.set_cons_succ, List.getElem_toArray, List.getElem_cons_zero, List.getElem_cons_succ]
    refine wpAnyH_take (i := 43) (v := undef) rfl (by kernel_rfl) (by kernel_rfl) (by kernel_rfl) (fun _ _ _ h => h) (Or.inr ⟨by rfl, rfl⟩) (by assumption) ?_
    try simp only [Act.put, List.setIfInBounds_toArray, List.set_cons_zero, List.set_cons_succ, List.getElem_toArray, List.getElem_cons_zero, List.getElem_cons_succ]
    refine wpAnyH_take (i := 44) (v := ?_) rfl (by kernel_rfl) (by kernel_rfl) (by kernel_rfl) (fun _ _ _ h => h) (Or.inl ⟨by rfl, ?_⟩) (by assumption) ?_
    rotate_left
    · intro w_ hSw; (try dsimp only at hSw); go_simp <;> with_reducible rfl
    try simp only [Act.put, List.setIfInBounds_toArray, List.set_cons_zero, List.set_cons_succ, List.getElem_toArray, List.getElem_cons_zero, List.getElem_cons_succ]
    refine wpAnyH_take (i := 45) (v := ?_) rfl (by kernel_rfl) (by kernel_rfl) (by kernel_rfl) (fun _ _ _ h => h) (Or.inl ⟨by rfl, ?_⟩) (by assumption) ?_
    rotate_left
    · intro w_ hSw; (try dsimp only at hSw); go_simp <;> with_reducible rfl
    try simp only [Act.put, List.setIfInBounds_toArray, List.set_cons_zero, List.set_cons_succ, List.getElem_toArray, List.getElem_cons_zero, List.getElem_cons_succ]
    refine wpAnyH_take (i := 46) (v := ?_) rfl (by kernel_rfl) (by kernel_rfl) (by kernel_rfl) (fun _ _ _ h => h) (Or.inl ⟨by rfl, ?_⟩) (by assumption) ?_
    rotate_left
    · intro w_ hSw; (try dsimp only at hSw); go_simp <;> with_reducible rfl
    try simp only [Act.put, List.setIfInBounds_toArray, List.set_cons_zero, List.set_cons_succ, List.getElem_toArray, List.getElem_cons_zero, List.getElem_cons_succ]
    refine wpAnyH_done (by kernel_rfl) ?_ _
    have HW7 : Hid (Below w0.heap.size w0 v3) := hid (bel_on (Nat.le_refl _) HW6.out T3.out)
    clear T1 T2 T3 HW6 hHeld
    go_wp2
    go_ret
    exact ⟨rfl, HW7.out⟩

theorem walk (a0 : Option Addr) (len0 cap0 : Nat) (z0 : List Int) (w : World) (w0 : IsRow .u8 w a0 len0 cap0 z0) :
    Calls Try.prog 7 #[.slice a0 len0 cap0] w fun e w' => e = .returned (.bool true) ∧ Below w.heap.size w w' := by
  have hlen : len0 ≤ 9223372036854775807 := by
    rcases w0 with ⟨_, h, _⟩ | ⟨x, _, h1, h2, _⟩
    · omega
    · unfold maxLen at h2; omega
  by_cases hb : len0 ≤ 1048576
  · exact ports_in a0 len0 cap0 hb w (code_of_row w0 hb)
  · have hb' : 1048576 < len0 := by omega
    go_enter Try.func7, Try.ntmps7
    go_wp2_with fail
    refine (big5 a0 len0 cap0 hlen _).mono ?_
    rintro e w1 ⟨rfl, rfl⟩
    rw [decide_eq_true (by omega)]
    go_wp2
    go_ret
    exact ⟨rfl, Below.refl _ _⟩

set_option maxRecDepth 100000 in
theorem lifted (os : Os) (started : os.Started) (H : Type) (enc : TypeId × Value → H) :
    ReturnsInHanded {} Try.checked os 7 .any (Rows.fnPortsSpec.pre6 enc Try.prog Try.f7 Rows.fnPortsRow.domain false) (Rows.fnPortsSpec.post enc Try.prog Try.f7 false true false false) := by
  refine returnsInHanded_of_change (C := Try.checked) own started (by kernel_rfl) Try.func7
    (ChangeSpec.witness6 (enc := enc) (C := Try.checked) false ⟨#[], #[.slice none 0 0], []⟩ 8 (by kernel_rfl) (by kernel_rfl) (by kernel_rfl) (by kernel_rfl)) ?_
  intro W base args ds gs before hval0 hW hcnd _
  have hval : ∀ (j : Nat) t v, Try.f7.params[j]? = some t → args[j]? = some v → Value.okWide Try.prog W .any base t v := hval0
  have hW' := hW
  obtain ⟨p, q, hA0, hV, rfl, hfz, hnd⟩ := hW
  have hA : DataW.TrodAll enc Try.prog W 0 (fun _ => true) true Try.f7.params.toList args.toList ds p := hA0
  rw [Try.params7] at hA hval
  obtain ⟨v0, vs0, d0, ds0, p0, q0, hargs, rfl, rfl, h0, r0⟩ := trodAll_cons hA
  obtain ⟨rfl, rfl, rfl⟩ := trodAll_nil r0
  obtain rfl : args = #[v0] := by cases args; simp_all
  obtain ⟨rfl, rfl⟩ := trodVars_none hV
  have k0 := h0
  have lt0 : ∀ x ∈ p0, x.block < W.heap.size := by obtain ⟨m, hm⟩ := k0; exact DataW.trod_lt m _ _ _ hm
  obtain ⟨a0, len0, cap0, z0, rfl, w0⟩ := open_code (hval 0 42 v0 rfl rfl) h0
  clear hA0 hval0
  refine (walk a0 len0 cap0 z0 W w0).mono fun e W' ⟨he, bel⟩ => ?_
  subst he
  exact ⟨_, rfl, _, _, _, [], _, [], hW', trodAll_mk1 (shut_bool Try.underlying4 _), (trodAll_cons_mk (Below.trod laidOut (by kernel_rfl) (of_decide_eq_true (by kernel_rfl)) k0 bel lt0) trodAll_mk0), rfl, bel.frame _, fun h => by cases h⟩

theorem over : Rows.fnPortsRow.holds Try.pinned (OpenSpec.ofChange Rows.fnPortsSpec) :=
  OpenClaim.holds_of_wide 7 Try.f7 rfl rfl rfl rfl rfl rfl rfl ⟨rfl, rfl, rfl, rfl, rfl⟩ rfl rfl rfl rfl rfl (by kernel_rfl) Try.func7 (by kernel_rfl)
    (of_decide_eq_true (by kernel_rfl)) (by unfold Func.isWrapper; first | (rw [if_pos (by decide +kernel)]; kernel_rfl) | (rw [if_neg (by decide +kernel)]; exact ⟨rfl, rfl⟩))
    (fun os started H enc _ => lifted os started H enc)

end Go.Proofs.Ytacpoandikheeaa.fnPorts
namespace Go.Proofs.Ytacpoandikheeaa
theorem fnPorts_holds : Rows.FnPortsSaid :=
  fnPorts.over
#print axioms fnPorts_holds
end Go.Proofs.Ytacpoandikheeaa
