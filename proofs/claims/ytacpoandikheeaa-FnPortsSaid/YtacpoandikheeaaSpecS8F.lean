/-
  SendPort of the specification: its line has its room, and is not nil.
-/
import Derived.Test.YtacpoandikheeaaSpecL
import Derived.Test.YtacpoandikheeaaSendP
namespace Go.Proofs.Ytacpoandikheeaa
open Go.RowKit Go.PlainAid
set_option linter.unusedVariables false

theorem OwnG.cap {w : World} {B g n c : Nat} {l : List (Int × Int)} (h : OwnG w B g n c l) : n ≤ c := by
  rcases h.2 with ⟨hv, _⟩ | ⟨g', cap, cur, hv, hg, hh, hnc, _⟩
  · cases hv
  · cases hv; exact hnc

set_option maxRecDepth 100000 in
set_option maxHeartbeats 2000000 in
theorem sendSpF (k f t m fr x y : Int) (a : Option Addr) (l : List (Int × Int)) (n cap : Nat) (b : Bool) (L : List (Int × Int)) (N : Nat) (C : Int) (hl : l.length = n) (hn : n ≤ 1048576) (hq : a = none → n = 0 ∧ cap = 0) (hb : b = true ↔ PortR k f t m fr) (hL : sendL b k m l x y = L) (hN : L.length = N) (hC : sendC b k m n = C) (w : World) (hr : RdR w a l) :
    Calls Try.prog 9 #[PV k f t m fr, .agg #[.slice a n cap], .int .i64 x, .int .i64 y] w fun e w' => ∃ q c, e = .returned (.tuple #[.agg #[.slice q N c], .int .i64 C]) ∧ N ≤ c ∧ (q = none → N = 0 ∧ c = 0) ∧ OwnM w' w.heap.size q L ∧ Below w.heap.size w w' := by
  have HR : Hid (RdR w a l) := hr
  have HL : Hid (l.length = n) := hl
  have HQ : Hid (a = none → n = 0 ∧ cap = 0) := hq
  have HPB : Hid (b = true ↔ PortR k f t m fr) := hb
  have HLL : Hid (sendL b k m l x y = L) := hL
  have HNN : Hid (L.length = N) := hN
  have HCC : Hid (sendC b k m n = C) := hC
  clear hr hl hb hL hN hC hq
  have FW_1 : Hid (Below w.heap.size w (w)) := Below.refl _ _
  have N_2 : Hid ((w).heap.size ≤ ((((w.alloc (.cells #[.int .i64 k, .int .i64 f, .int .i64 t, .int .i64 m, .int .i64 fr] 33)).alloc (.cells #[.slice a n cap] 30)).alloc (.cells #[.slice none 0 0] 30))).heap.size) := (al3_b w (.cells #[.int .i64 k, .int .i64 f, .int .i64 t, .int .i64 m, .int .i64 fr] 33) (.cells #[.slice a n cap] 30) (.cells #[.slice none 0 0] 30)).size
  have FW_3 : Hid (Below w.heap.size w ((((w.alloc (.cells #[.int .i64 k, .int .i64 f, .int .i64 t, .int .i64 m, .int .i64 fr] 33)).alloc (.cells #[.slice a n cap] 30)).alloc (.cells #[.slice none 0 0] 30)))) := bel_on (Nat.le_refl _) FW_1.out (al3_b w (.cells #[.int .i64 k, .int .i64 f, .int .i64 t, .int .i64 m, .int .i64 fr] 33) (.cells #[.slice a n cap] 30) (.cells #[.slice none 0 0] 30))
  clear FW_1
  have N_4 : Hid ((((w.alloc (.cells #[.int .i64 k, .int .i64 f, .int .i64 t, .int .i64 m, .int .i64 fr] 33)).alloc (.cells #[.slice a n cap] 30)).alloc (.cells #[.slice none 0 0] 30)).heap.size = w.heap.size + 3) := al3_s w (.cells #[.int .i64 k, .int .i64 f, .int .i64 t, .int .i64 m, .int .i64 fr] 33) (.cells #[.slice a n cap] 30) (.cells #[.slice none 0 0] 30)
  have FP_5 : Hid (((((w.alloc (.cells #[.int .i64 k, .int .i64 f, .int .i64 t, .int .i64 m, .int .i64 fr] 33)).alloc (.cells #[.slice a n cap] 30)).alloc (.cells #[.slice none 0 0] 30))).heap[w.heap.size]? = some (.cells #[.int .i64 k, .int .i64 f, .int .i64 t, .int .i64 m, .int .i64 fr] 33)) := al3_1 w (.cells #[.int .i64 k, .int .i64 f, .int .i64 t, .int .i64 m, .int .i64 fr] 33) (.cells #[.slice a n cap] 30) (.cells #[.slice none 0 0] 30)
  have FL_6 : Hid (((((w.alloc (.cells #[.int .i64 k, .int .i64 f, .int .i64 t, .int .i64 m, .int .i64 fr] 33)).alloc (.cells #[.slice a n cap] 30)).alloc (.cells #[.slice none 0 0] 30))).heap[w.heap.size + 1]? = some (.cells #[.slice a n cap] 30)) := al3_2 w (.cells #[.int .i64 k, .int .i64 f, .int .i64 t, .int .i64 m, .int .i64 fr] 33) (.cells #[.slice a n cap] 30) (.cells #[.slice none 0 0] 30)
  have FZ_7 : Hid (((((w.alloc (.cells #[.int .i64 k, .int .i64 f, .int .i64 t, .int .i64 m, .int .i64 fr] 33)).alloc (.cells #[.slice a n cap] 30)).alloc (.cells #[.slice none 0 0] 30))).heap[w.heap.size + 1 + 1]? = some (.cells #[.slice none 0 0] 30)) := al3_3 w (.cells #[.int .i64 k, .int .i64 f, .int .i64 t, .int .i64 m, .int .i64 fr] 33) (.cells #[.slice a n cap] 30) (.cells #[.slice none 0 0] 30)
  go_enter Try.func9, Try.ntmps9
  go_wp2_with fail
  refine (copyLS a l n cap HL.out hn HQ.out _ (HR.out.keep FW_3.out (Nat.le_refl _))).mono ?_
  rintro e w1 ⟨g1, c1, rfl, ho1, hb1⟩
  have N_8 : Hid (((((w.alloc (.cells #[.int .i64 k, .int .i64 f, .int .i64 t, .int .i64 m, .int .i64 fr] 33)).alloc (.cells #[.slice a n cap] 30)).alloc (.cells #[.slice none 0 0] 30))).heap.size ≤ (w1).heap.size) := (hb1).size
  have FW_9 : Hid (Below w.heap.size w (w1)) := bel_on (Nat.le_refl _) FW_3.out (hb1)
  have FP_10 : Hid ((w1).heap[w.heap.size]? = some (.cells #[.int .i64 k, .int .i64 f, .int .i64 t, .int .i64 m, .int .i64 fr] 33)) := row_on FP_5.out (hb1)
  have FL_11 : Hid ((w1).heap[w.heap.size + 1]? = some (.cells #[.slice a n cap] 30)) := row_on FL_6.out (hb1)
  have FZ_12 : Hid ((w1).heap[w.heap.size + 1 + 1]? = some (.cells #[.slice none 0 0] 30)) := row_on FZ_7.out (hb1)
  clear FW_3 FP_5 FL_6 FZ_7
  have ho1s : w.heap.size + 1 + 1 < g1 := by have := ho1.ge; simp at this; omega
  have N_13 : Hid (w.heap.size + 1 + 1 < g1 ∧ g1 < w1.heap.size) := ⟨ho1s, ho1.lt⟩
  have FG_14 : Hid (OwnG (w1) w.heap.size g1 n c1 l) := ho1.mono (by simp; omega)
  clear ho1 ho1s hb1
  have N_15 : Hid ((w1).heap.size ≤ (((w1.alloc (.cells #[.slice (some ⟨g1, 0, none⟩) n c1] 30)).alloc (.cells #[.int .i64 x, .int .i64 y] 52))).heap.size) := (al2_b w1 (.cells #[.slice (some ⟨g1, 0, none⟩) n c1] 30) (.cells #[.int .i64 x, .int .i64 y] 52)).size
  have FW_16 : Hid (Below w.heap.size w (((w1.alloc (.cells #[.slice (some ⟨g1, 0, none⟩) n c1] 30)).alloc (.cells #[.int .i64 x, .int .i64 y] 52)))) := bel_on (Nat.le_refl _) FW_9.out (al2_b w1 (.cells #[.slice (some ⟨g1, 0, none⟩) n c1] 30) (.cells #[.int .i64 x, .int .i64 y] 52))
  have FP_17 : Hid ((((w1.alloc (.cells #[.slice (some ⟨g1, 0, none⟩) n c1] 30)).alloc (.cells #[.int .i64 x, .int .i64 y] 52))).heap[w.heap.size]? = some (.cells #[.int .i64 k, .int .i64 f, .int .i64 t, .int .i64 m, .int .i64 fr] 33)) := row_on FP_10.out (al2_b w1 (.cells #[.slice (some ⟨g1, 0, none⟩) n c1] 30) (.cells #[.int .i64 x, .int .i64 y] 52))
  have FL_18 : Hid ((((w1.alloc (.cells #[.slice (some ⟨g1, 0, none⟩) n c1] 30)).alloc (.cells #[.int .i64 x, .int .i64 y] 52))).heap[w.heap.size + 1]? = some (.cells #[.slice a n cap] 30)) := row_on FL_11.out (al2_b w1 (.cells #[.slice (some ⟨g1, 0, none⟩) n c1] 30) (.cells #[.int .i64 x, .int .i64 y] 52))
  have FZ_19 : Hid ((((w1.alloc (.cells #[.slice (some ⟨g1, 0, none⟩) n c1] 30)).alloc (.cells #[.int .i64 x, .int .i64 y] 52))).heap[w.heap.size + 1 + 1]? = some (.cells #[.slice none 0 0] 30)) := row_on FZ_12.out (al2_b w1 (.cells #[.slice (some ⟨g1, 0, none⟩) n c1] 30) (.cells #[.int .i64 x, .int .i64 y] 52))
  have FG_20 : Hid (OwnG (((w1.alloc (.cells #[.slice (some ⟨g1, 0, none⟩) n c1] 30)).alloc (.cells #[.int .i64 x, .int .i64 y] 52))) w.heap.size g1 n c1 l) := OwnG.on FG_14.out (al2_b w1 (.cells #[.slice (some ⟨g1, 0, none⟩) n c1] 30) (.cells #[.int .i64 x, .int .i64 y] 52))
  clear FW_9 FP_10 FL_11 FZ_12 FG_14
  have N_21 : Hid (((w1.alloc (.cells #[.slice (some ⟨g1, 0, none⟩) n c1] 30)).alloc (.cells #[.int .i64 x, .int .i64 y] 52)).heap.size = w1.heap.size + 2) := al2_s w1 (.cells #[.slice (some ⟨g1, 0, none⟩) n c1] 30) (.cells #[.int .i64 x, .int .i64 y] 52)
  have FO_22 : Hid ((((w1.alloc (.cells #[.slice (some ⟨g1, 0, none⟩) n c1] 30)).alloc (.cells #[.int .i64 x, .int .i64 y] 52))).heap[w1.heap.size]? = some (.cells #[.slice (some ⟨g1, 0, none⟩) n c1] 30)) := al2_1 w1 (.cells #[.slice (some ⟨g1, 0, none⟩) n c1] 30) (.cells #[.int .i64 x, .int .i64 y] 52)
  have FM_23 : Hid ((((w1.alloc (.cells #[.slice (some ⟨g1, 0, none⟩) n c1] 30)).alloc (.cells #[.int .i64 x, .int .i64 y] 52))).heap[w1.heap.size + 1]? = some (.cells #[.int .i64 x, .int .i64 y] 52)) := al2_2 w1 (.cells #[.slice (some ⟨g1, 0, none⟩) n c1] 30) (.cells #[.int .i64 x, .int .i64 y] 52)
  have kP := box5_cells FP_17.out
  go_wp2_with fail
  clear kP
  refine (portokS k f t m fr b HPB.out _).mono ?_
  rintro e w2 ⟨rfl, hb2⟩
  have N_24 : Hid ((((w1.alloc (.cells #[.slice (some ⟨g1, 0, none⟩) n c1] 30)).alloc (.cells #[.int .i64 x, .int .i64 y] 52))).heap.size ≤ (w2).heap.size) := (hb2).size
  have FW_25 : Hid (Below w.heap.size w (w2)) := bel_on (Nat.le_refl _) FW_16.out (hb2)
  have FP_26 : Hid ((w2).heap[w.heap.size]? = some (.cells #[.int .i64 k, .int .i64 f, .int .i64 t, .int .i64 m, .int .i64 fr] 33)) := row_on FP_17.out (hb2)
  have FL_27 : Hid ((w2).heap[w.heap.size + 1]? = some (.cells #[.slice a n cap] 30)) := row_on FL_18.out (hb2)
  have FZ_28 : Hid ((w2).heap[w.heap.size + 1 + 1]? = some (.cells #[.slice none 0 0] 30)) := row_on FZ_19.out (hb2)
  have FG_29 : Hid (OwnG (w2) w.heap.size g1 n c1 l) := OwnG.on FG_20.out (hb2)
  have FO_30 : Hid ((w2).heap[w1.heap.size]? = some (.cells #[.slice (some ⟨g1, 0, none⟩) n c1] 30)) := row_on FO_22.out (hb2)
  have FM_31 : Hid ((w2).heap[w1.heap.size + 1]? = some (.cells #[.int .i64 x, .int .i64 y] 52)) := row_on FM_23.out (hb2)
  clear FW_16 FP_17 FL_18 FZ_19 FG_20 FO_22 FM_23 hb2
  cases b with
  | false =>
    have HPN : Hid (¬ PortR k f t m fr) := fun h => by have := HPB.out.2 h; cases this
    clear HPB
    obtain rfl : l = L := HLL.out
    obtain rfl : n = N := by rw [← HL.out, HNN.out]
    obtain rfl : 1 = C := HCC.out
    clear HLL HNN HCC
    have kP := box5_cells FP_26.out
    go_wp2_with fail
    clear kP
    refine (portokS k f t m fr false ⟨(fun h => by cases h), (fun h => absurd h HPN.out)⟩ _).mono ?_
    rintro e w3 ⟨rfl, hb3⟩
    have N_32 : Hid ((w2).heap.size ≤ (w3).heap.size) := (hb3).size
    have FW_33 : Hid (Below w.heap.size w (w3)) := bel_on (Nat.le_refl _) FW_25.out (hb3)
    have FP_34 : Hid ((w3).heap[w.heap.size]? = some (.cells #[.int .i64 k, .int .i64 f, .int .i64 t, .int .i64 m, .int .i64 fr] 33)) := row_on FP_26.out (hb3)
    have FL_35 : Hid ((w3).heap[w.heap.size + 1]? = some (.cells #[.slice a n cap] 30)) := row_on FL_27.out (hb3)
    have FZ_36 : Hid ((w3).heap[w.heap.size + 1 + 1]? = some (.cells #[.slice none 0 0] 30)) := row_on FZ_28.out (hb3)
    have FG_37 : Hid (OwnG (w3) w.heap.size g1 n c1 l) := OwnG.on FG_29.out (hb3)
    have FO_38 : Hid ((w3).heap[w1.heap.size]? = some (.cells #[.slice (some ⟨g1, 0, none⟩) n c1] 30)) := row_on FO_30.out (hb3)
    have FM_39 : Hid ((w3).heap[w1.heap.size + 1]? = some (.cells #[.int .i64 x, .int .i64 y] 52)) := row_on FM_31.out (hb3)
    clear FW_25 FP_26 FL_27 FZ_28 FG_29 FO_30 FM_31 hb3
    have kO := row1_cells FO_38.out
    have kZ := row1_cells FZ_36.out
    go_wp2
    refine bodyPost_ret (v := .tuple #[.agg #[.slice (some ⟨g1, 0, none⟩) n c1], .int .i64 1]) (by simp [results, Try.results9, go_sem, kZ]) rfl ⟨_, _, rfl, (OwnG.cap FG_37.out), (by simp), ?_, ?_⟩
    · exact OwnM.put (FG_37.out.own) FZ_36.out (by decide)
    · exact FW_33.out.setCell (by simp; omega) _
  | true =>
    have HPR := HPB.out.1 rfl
    rcases HPR.2.2.2 with ⟨hk, hm, hfr⟩ | ⟨hk, hm, hfr⟩
    · subst hk
      have HPY : Hid (PortR 1 f t m fr) := HPR
      clear HPB HPR hm hfr
      have kP := box5_cells FP_26.out
      go_wp2_with fail
      clear kP
      refine (portokS 1 f t m fr true ⟨(fun _ => HPY.out), (fun _ => rfl)⟩ _).mono ?_
      rintro e w3 ⟨rfl, hb3⟩
      have N_32 : Hid ((w2).heap.size ≤ (w3).heap.size) := (hb3).size
      have FW_33 : Hid (Below w.heap.size w (w3)) := bel_on (Nat.le_refl _) FW_25.out (hb3)
      have FP_34 : Hid ((w3).heap[w.heap.size]? = some (.cells #[.int .i64 1, .int .i64 f, .int .i64 t, .int .i64 m, .int .i64 fr] 33)) := row_on FP_26.out (hb3)
      have FL_35 : Hid ((w3).heap[w.heap.size + 1]? = some (.cells #[.slice a n cap] 30)) := row_on FL_27.out (hb3)
      have FZ_36 : Hid ((w3).heap[w.heap.size + 1 + 1]? = some (.cells #[.slice none 0 0] 30)) := row_on FZ_28.out (hb3)
      have FG_37 : Hid (OwnG (w3) w.heap.size g1 n c1 l) := OwnG.on FG_29.out (hb3)
      have FO_38 : Hid ((w3).heap[w1.heap.size]? = some (.cells #[.slice (some ⟨g1, 0, none⟩) n c1] 30)) := row_on FO_30.out (hb3)
      have FM_39 : Hid ((w3).heap[w1.heap.size + 1]? = some (.cells #[.int .i64 x, .int .i64 y] 52)) := row_on FM_31.out (hb3)
      clear FW_25 FP_26 FL_27 FZ_28 FG_29 FO_30 FM_31 hb3
      by_cases hroom : (n : Int) < m
      · obtain rfl : l ++ [(x, y)] = L := by have := HLL.out; unfold sendL at this; rw [HL.out] at this; simpa [hroom] using this
        obtain rfl : n + 1 = N := by rw [← HNN.out, ← HL.out]; simp
        obtain rfl : 0 = C := by have := HCC.out; unfold sendC at this; simpa [hroom] using this
        have hroom2 : ¬ m ≤ (n : Int) := by omega
        clear HLL HNN HCC
        have kP := box5_cells FP_34.out
        have kL := row1_cells FL_35.out
        have kO := row1_cells FO_38.out
        have kM := row2_cells FM_39.out
        have HR1 : Hid (RdR (w3.alloc (.cells #[.int .i64 x, .int .i64 y] 52)) (some ⟨w3.heap.size, 0, none⟩) [(x, y)]) := (one_row w3 x y).rd
        have HSZ : w.heap.size ≤ (w3.alloc (.cells #[.int .i64 x, .int .i64 y] 52)).heap.size := by simp; exact (by have n0_ := N_4.out; have n1_ := N_8.out; have n2_ := N_13.out; have n3_ := N_21.out; have n4_ := N_24.out; have n5_ := N_32.out; omega)
        go_wp2_with (at_builtin; refine listM rfl _ _ rfl w.heap.size g1 n c1 l (some ⟨w3.heap.size, 0, none⟩) 1 1 [(x, y)] rfl rfl (OwnG.on FG_37.out (al1_b _ _)) rfl (by simp) HR1.out (by omega) HSZ ?_)
        intro g4 c4 w4 hown4 hgrow4
        clear kP kL kO kM
        have N_40 : Hid ((w3).heap.size ≤ ((w3.alloc (.cells #[.int .i64 x, .int .i64 y] 52))).heap.size) := (al1_b w3 (.cells #[.int .i64 x, .int .i64 y] 52)).size
        have FW_41 : Hid (Below w.heap.size w ((w3.alloc (.cells #[.int .i64 x, .int .i64 y] 52)))) := bel_on (Nat.le_refl _) FW_33.out (al1_b w3 (.cells #[.int .i64 x, .int .i64 y] 52))
        have FP_42 : Hid (((w3.alloc (.cells #[.int .i64 x, .int .i64 y] 52))).heap[w.heap.size]? = some (.cells #[.int .i64 1, .int .i64 f, .int .i64 t, .int .i64 m, .int .i64 fr] 33)) := row_on FP_34.out (al1_b w3 (.cells #[.int .i64 x, .int .i64 y] 52))
        have FL_43 : Hid (((w3.alloc (.cells #[.int .i64 x, .int .i64 y] 52))).heap[w.heap.size + 1]? = some (.cells #[.slice a n cap] 30)) := row_on FL_35.out (al1_b w3 (.cells #[.int .i64 x, .int .i64 y] 52))
        have FZ_44 : Hid (((w3.alloc (.cells #[.int .i64 x, .int .i64 y] 52))).heap[w.heap.size + 1 + 1]? = some (.cells #[.slice none 0 0] 30)) := row_on FZ_36.out (al1_b w3 (.cells #[.int .i64 x, .int .i64 y] 52))
        have FG_45 : Hid (OwnG ((w3.alloc (.cells #[.int .i64 x, .int .i64 y] 52))) w.heap.size g1 n c1 l) := OwnG.on FG_37.out (al1_b w3 (.cells #[.int .i64 x, .int .i64 y] 52))
        have FO_46 : Hid (((w3.alloc (.cells #[.int .i64 x, .int .i64 y] 52))).heap[w1.heap.size]? = some (.cells #[.slice (some ⟨g1, 0, none⟩) n c1] 30)) := row_on FO_38.out (al1_b w3 (.cells #[.int .i64 x, .int .i64 y] 52))
        have FM_47 : Hid (((w3.alloc (.cells #[.int .i64 x, .int .i64 y] 52))).heap[w1.heap.size + 1]? = some (.cells #[.int .i64 x, .int .i64 y] 52)) := row_on FM_39.out (al1_b w3 (.cells #[.int .i64 x, .int .i64 y] 52))
        clear FW_33 FP_34 FL_35 FZ_36 FG_37 FO_38 FM_39
        clear FG_45
        have N_48 : Hid (((w3.alloc (.cells #[.int .i64 x, .int .i64 y] 52))).heap.size ≤ (w4).heap.size) := (hgrow4).size
        have FW_49 : Hid (Below w.heap.size w (w4)) := FW_41.out.grown (hgrow4) FW_41.out.size (fun k hk => by cases hk; exact (by have n0_ := N_4.out; have n1_ := N_8.out; have n2_ := N_13.out; have n3_ := N_21.out; have n4_ := N_24.out; have n5_ := N_32.out; have n6_ := N_40.out; have n7_ := N_48.out; omega))
        have FP_50 : Hid ((w4).heap[w.heap.size]? = some (.cells #[.int .i64 1, .int .i64 f, .int .i64 t, .int .i64 m, .int .i64 fr] 33)) := grown_row (hgrow4) FP_42.out (fun e => by have e_ := Option.some.inj e; have n0_ := N_4.out; have n1_ := N_8.out; have n2_ := N_13.out; have n3_ := N_21.out; have n4_ := N_24.out; have n5_ := N_32.out; have n6_ := N_40.out; have n7_ := N_48.out; omega)
        have FL_51 : Hid ((w4).heap[w.heap.size + 1]? = some (.cells #[.slice a n cap] 30)) := grown_row (hgrow4) FL_43.out (fun e => by have e_ := Option.some.inj e; have n0_ := N_4.out; have n1_ := N_8.out; have n2_ := N_13.out; have n3_ := N_21.out; have n4_ := N_24.out; have n5_ := N_32.out; have n6_ := N_40.out; have n7_ := N_48.out; omega)
        have FZ_52 : Hid ((w4).heap[w.heap.size + 1 + 1]? = some (.cells #[.slice none 0 0] 30)) := grown_row (hgrow4) FZ_44.out (fun e => by have e_ := Option.some.inj e; have n0_ := N_4.out; have n1_ := N_8.out; have n2_ := N_13.out; have n3_ := N_21.out; have n4_ := N_24.out; have n5_ := N_32.out; have n6_ := N_40.out; have n7_ := N_48.out; omega)
        have FO_53 : Hid ((w4).heap[w1.heap.size]? = some (.cells #[.slice (some ⟨g1, 0, none⟩) n c1] 30)) := grown_row (hgrow4) FO_46.out (fun e => by have e_ := Option.some.inj e; have n0_ := N_4.out; have n1_ := N_8.out; have n2_ := N_13.out; have n3_ := N_21.out; have n4_ := N_24.out; have n5_ := N_32.out; have n6_ := N_40.out; have n7_ := N_48.out; omega)
        have FM_54 : Hid ((w4).heap[w1.heap.size + 1]? = some (.cells #[.int .i64 x, .int .i64 y] 52)) := grown_row (hgrow4) FM_47.out (fun e => by have e_ := Option.some.inj e; have n0_ := N_4.out; have n1_ := N_8.out; have n2_ := N_13.out; have n3_ := N_21.out; have n4_ := N_24.out; have n5_ := N_32.out; have n6_ := N_40.out; have n7_ := N_48.out; omega)
        clear FW_41 FP_42 FL_43 FZ_44 FO_46 FM_47 hgrow4 HR1 HSZ
        have N_55 : Hid (w.heap.size ≤ g4 ∧ g4 < w4.heap.size) := ⟨hown4.ge, hown4.lt⟩
        have FG_56 : Hid (OwnG (w4) w.heap.size g4 (n + 1) c4 (l ++ [(x, y)])) := hown4
        clear hown4
        have kO := row1_cells FO_53.out
        have kZ := row1_cells FZ_52.out
        have HZn : Hid (_ = _) := set_other (k := w1.heap.size) (i := 0) (x := .slice (some ⟨g4, 0, none⟩) (n + 1) c4) FZ_52.out (by have n0_ := N_4.out; have n1_ := N_8.out; have n2_ := N_13.out; have n3_ := N_21.out; have n4_ := N_24.out; have n5_ := N_32.out; have n6_ := N_40.out; have n7_ := N_48.out; have n8_ := N_55.out; omega)
        have kZ2 := row1_cells HZn.out
        have hne1 : w1.heap.size ≠ w.heap.size + 1 + 1 := (by have n0_ := N_4.out; have n1_ := N_8.out; have n2_ := N_13.out; have n3_ := N_21.out; have n4_ := N_24.out; have n5_ := N_32.out; have n6_ := N_40.out; have n7_ := N_48.out; have n8_ := N_55.out; omega)
        go_wp2
        refine bodyPost_ret (v := .tuple #[.agg #[.slice (some ⟨g4, 0, none⟩) (n + 1) c4], .int .i64 0]) (by simp [results, Try.results9, go_sem, kZ2]) rfl ⟨_, _, rfl, (OwnG.cap FG_56.out), (by simp), ?_, ?_⟩
        · exact OwnM.put (OwnM.put (FG_56.out).own FO_53.out (by decide)) HZn.out (by decide)
        · exact (FW_49.out.setCell (p := ⟨w1.heap.size, 0, none⟩) (show w.heap.size ≤ w1.heap.size from (by have n0_ := N_4.out; have n1_ := N_8.out; have n2_ := N_13.out; have n3_ := N_21.out; have n4_ := N_24.out; have n5_ := N_32.out; have n6_ := N_40.out; have n7_ := N_48.out; have n8_ := N_55.out; omega)) _).setCell (by simp; omega) _
      · obtain rfl : l = L := by have := HLL.out; unfold sendL at this; rw [HL.out] at this; simpa [hroom] using this
        obtain rfl : n = N := by rw [← HL.out, HNN.out]
        obtain rfl : 1 = C := by have := HCC.out; unfold sendC at this; simpa [hroom] using this
        have hroom2 : m ≤ (n : Int) := by omega
        clear HLL HNN HCC
        have kP := box5_cells FP_34.out
        have kL := row1_cells FL_35.out
        have kO := row1_cells FO_38.out
        have kZ := row1_cells FZ_36.out
        go_wp2
        refine bodyPost_ret (v := .tuple #[.agg #[.slice (some ⟨g1, 0, none⟩) n c1], .int .i64 1]) (by simp [results, Try.results9, go_sem, kZ]) rfl ⟨_, _, rfl, (OwnG.cap FG_37.out), (by simp), ?_, ?_⟩
        · exact OwnM.put (FG_37.out.own) FZ_36.out (by decide)
        · exact FW_33.out.setCell (by simp; omega) _
    · subst hk
      clear HPB
      obtain rfl : [(x, y)] = L := by have := HLL.out; unfold sendL at this; simpa using this
      obtain rfl : 1 = N := HNN.out
      obtain rfl : 0 = C := by have := HCC.out; unfold sendC at this; simpa using this
      clear HLL HNN HCC HPR hm hfr
      have kP := box5_cells FP_26.out
      have kM := row2_cells FM_31.out
      have kZ := row1_cells (row_on FZ_28.out (al1_b w2 (.cells #[.int .i64 x, .int .i64 y] 52)))
      go_wp2
      have N_32 : Hid ((w2).heap.size ≤ ((w2.alloc (.cells #[.int .i64 x, .int .i64 y] 52))).heap.size) := (al1_b w2 (.cells #[.int .i64 x, .int .i64 y] 52)).size
      have FW_33 : Hid (Below w.heap.size w ((w2.alloc (.cells #[.int .i64 x, .int .i64 y] 52)))) := bel_on (Nat.le_refl _) FW_25.out (al1_b w2 (.cells #[.int .i64 x, .int .i64 y] 52))
      have FP_34 : Hid (((w2.alloc (.cells #[.int .i64 x, .int .i64 y] 52))).heap[w.heap.size]? = some (.cells #[.int .i64 2, .int .i64 f, .int .i64 t, .int .i64 m, .int .i64 fr] 33)) := row_on FP_26.out (al1_b w2 (.cells #[.int .i64 x, .int .i64 y] 52))
      have FL_35 : Hid (((w2.alloc (.cells #[.int .i64 x, .int .i64 y] 52))).heap[w.heap.size + 1]? = some (.cells #[.slice a n cap] 30)) := row_on FL_27.out (al1_b w2 (.cells #[.int .i64 x, .int .i64 y] 52))
      have FZ_36 : Hid (((w2.alloc (.cells #[.int .i64 x, .int .i64 y] 52))).heap[w.heap.size + 1 + 1]? = some (.cells #[.slice none 0 0] 30)) := row_on FZ_28.out (al1_b w2 (.cells #[.int .i64 x, .int .i64 y] 52))
      have FG_37 : Hid (OwnG ((w2.alloc (.cells #[.int .i64 x, .int .i64 y] 52))) w.heap.size g1 n c1 l) := OwnG.on FG_29.out (al1_b w2 (.cells #[.int .i64 x, .int .i64 y] 52))
      have FO_38 : Hid (((w2.alloc (.cells #[.int .i64 x, .int .i64 y] 52))).heap[w1.heap.size]? = some (.cells #[.slice (some ⟨g1, 0, none⟩) n c1] 30)) := row_on FO_30.out (al1_b w2 (.cells #[.int .i64 x, .int .i64 y] 52))
      have FM_39 : Hid (((w2.alloc (.cells #[.int .i64 x, .int .i64 y] 52))).heap[w1.heap.size + 1]? = some (.cells #[.int .i64 x, .int .i64 y] 52)) := row_on FM_31.out (al1_b w2 (.cells #[.int .i64 x, .int .i64 y] 52))
      clear FW_25 FP_26 FL_27 FZ_28 FG_29 FO_30 FM_31
      refine bodyPost_ret (v := .tuple #[.agg #[.slice (some ⟨w2.heap.size, 0, none⟩) 1 1], .int .i64 0]) (by simp [results, Try.results9, go_sem, kZ]) rfl ⟨_, _, rfl, (Nat.le_refl _), (by simp), ?_, ?_⟩
      · exact OwnM.put ((one_row w2 x y).own (by have n0_ := N_4.out; have n1_ := N_8.out; have n2_ := N_13.out; have n3_ := N_21.out; have n4_ := N_24.out; have n5_ := N_32.out; omega)) FZ_36.out (by decide)
      · exact FW_33.out.setCell (by simp; omega) _
end Go.Proofs.Ytacpoandikheeaa
