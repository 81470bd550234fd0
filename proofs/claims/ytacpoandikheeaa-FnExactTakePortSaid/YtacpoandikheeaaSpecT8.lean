/-
  TakePort of the specification.
-/
import Derived.Test.YtacpoandikheeaaSpecL
import Derived.Test.YtacpoandikheeaaTakeP
namespace Go.Proofs.Ytacpoandikheeaa
open Go.RowKit Go.PlainAid
set_option linter.unusedVariables false

theorem q3_keep {W0 W' : World} {p0 p1 p2 : Addr} {v0 v1 v2 : Value} (h : W0.cell? p0 = some v0 ∧ W0.cell? p1 = some v1 ∧ W0.cell? p2 = some v2) (hB : Below W0.heap.size W0 W') : W'.cell? p0 = some v0 ∧ W'.cell? p1 = some v1 ∧ W'.cell? p2 = some v2 := ⟨cell_on h.1 hB, cell_on h.2.1 hB, cell_on h.2.2 hB⟩
theorem q3_set {W0 : World} {p0 p1 p2 : Addr} {v0 v1 v2 v : Value} {r i : Nat} (h : W0.cell? p0 = some v0 ∧ W0.cell? p1 = some v1 ∧ W0.cell? p2 = some v2) (h0 : p0.block ≠ r) (h1 : p1.block ≠ r) (h2 : p2.block ≠ r) : (W0.setCell ⟨r, i, none⟩ v).cell? p0 = some v0 ∧ (W0.setCell ⟨r, i, none⟩ v).cell? p1 = some v1 ∧ (W0.setCell ⟨r, i, none⟩ v).cell? p2 = some v2 := ⟨cell_put h.1 h0, cell_put h.2.1 h1, cell_put h.2.2 h2⟩
theorem RdR.tail {w : World} {g off : Nat} {p : Int × Int} {l : List (Int × Int)} (h : RdR w (some ⟨g, off, none⟩) (p :: l)) : RdR w (some ⟨g, off + 2, none⟩) l := fun h0 => by
  obtain ⟨g', off', ha, hc⟩ := h (by simp)
  cases ha
  refine ⟨g, off + 2, rfl, fun j hj => ?_⟩
  have := hc (j + 1) (by simpa using hj)
  rw [show off + 2 + j * 2 = off + (j + 1) * 2 by omega]
  simpa using this

set_option maxRecDepth 100000 in
set_option maxHeartbeats 2000000 in
theorem takeSp (k f t m fr y : Int) (a : Option Addr) (l : List (Int × Int)) (n cap : Nat) (b : Bool) (L : List (Int × Int)) (N : Nat) (U C : Int) (hl : l.length = n) (hn : n ≤ 1048576) (hcap : n ≤ cap) (hq : a = none → n = 0 ∧ cap = 0) (hb : b = true ↔ PortR k f t m fr) (hy : InI y) (hs : ∀ p ∈ l, InI p.2) (hL : takeL b k l = L) (hN : L.length = N) (hU : takeN b l = U) (hC : takeC b k fr y l = C) (w : World) (hr : RdR w a l) :
    Calls Try.prog 16 #[PV k f t m fr, .agg #[.slice a n cap], .int .i64 y] w fun e w' => ∃ q c, e = .returned (.tuple #[.agg #[.slice q N c], .int .i64 U, .int .i64 C]) ∧ OwnM w' w.heap.size q L ∧ Below w.heap.size w w' := by
  have HR : Hid (RdR w a l) := hr
  have HL : Hid (l.length = n) := hl
  have HQ : Hid (a = none → n = 0 ∧ cap = 0) := hq
  have HPB : Hid (b = true ↔ PortR k f t m fr) := hb
  have HLL : Hid (takeL b k l = L) := hL
  have HNN : Hid (L.length = N) := hN
  have HUU : Hid (takeN b l = U) := hU
  have HCC : Hid (takeC b k fr y l = C) := hC
  have HYI : Hid (InI y) := hy
  have HSI : Hid (∀ p ∈ l, InI p.2) := hs
  clear hr hl hb hL hN hC hU hq hy hs
  have FW_1 : Hid (Below w.heap.size w (w)) := Below.refl _ _
  have N_2 : Hid ((w).heap.size ≤ ((((w.alloc (.cells #[.int .i64 k, .int .i64 f, .int .i64 t, .int .i64 m, .int .i64 fr] 33)).alloc (.cells #[.slice a n cap] 30)).alloc (.cells #[.slice none 0 0] 30))).heap.size) := (al3_b w (.cells #[.int .i64 k, .int .i64 f, .int .i64 t, .int .i64 m, .int .i64 fr] 33) (.cells #[.slice a n cap] 30) (.cells #[.slice none 0 0] 30)).size
  have FW_3 : Hid (Below w.heap.size w ((((w.alloc (.cells #[.int .i64 k, .int .i64 f, .int .i64 t, .int .i64 m, .int .i64 fr] 33)).alloc (.cells #[.slice a n cap] 30)).alloc (.cells #[.slice none 0 0] 30)))) := bel_on (Nat.le_refl _) FW_1.out (al3_b w (.cells #[.int .i64 k, .int .i64 f, .int .i64 t, .int .i64 m, .int .i64 fr] 33) (.cells #[.slice a n cap] 30) (.cells #[.slice none 0 0] 30))
  clear FW_1
  have N_4 : Hid ((((w.alloc (.cells #[.int .i64 k, .int .i64 f, .int .i64 t, .int .i64 m, .int .i64 fr] 33)).alloc (.cells #[.slice a n cap] 30)).alloc (.cells #[.slice none 0 0] 30)).heap.size = w.heap.size + 3) := al3_s w (.cells #[.int .i64 k, .int .i64 f, .int .i64 t, .int .i64 m, .int .i64 fr] 33) (.cells #[.slice a n cap] 30) (.cells #[.slice none 0 0] 30)
  have FP_5 : Hid (((((w.alloc (.cells #[.int .i64 k, .int .i64 f, .int .i64 t, .int .i64 m, .int .i64 fr] 33)).alloc (.cells #[.slice a n cap] 30)).alloc (.cells #[.slice none 0 0] 30))).heap[w.heap.size]? = some (.cells #[.int .i64 k, .int .i64 f, .int .i64 t, .int .i64 m, .int .i64 fr] 33)) := al3_1 w (.cells #[.int .i64 k, .int .i64 f, .int .i64 t, .int .i64 m, .int .i64 fr] 33) (.cells #[.slice a n cap] 30) (.cells #[.slice none 0 0] 30)
  have FL_6 : Hid (((((w.alloc (.cells #[.int .i64 k, .int .i64 f, .int .i64 t, .int .i64 m, .int .i64 fr] 33)).alloc (.cells #[.slice a n cap] 30)).alloc (.cells #[.slice none 0 0] 30))).heap[w.heap.size + 1]? = some (.cells #[.slice a n cap] 30)) := al3_2 w (.cells #[.int .i64 k, .int .i64 f, .int .i64 t, .int .i64 m, .int .i64 fr] 33) (.cells #[.slice a n cap] 30) (.cells #[.slice none 0 0] 30)
  have FZ_7 : Hid (((((w.alloc (.cells #[.int .i64 k, .int .i64 f, .int .i64 t, .int .i64 m, .int .i64 fr] 33)).alloc (.cells #[.slice a n cap] 30)).alloc (.cells #[.slice none 0 0] 30))).heap[w.heap.size + 1 + 1]? = some (.cells #[.slice none 0 0] 30)) := al3_3 w (.cells #[.int .i64 k, .int .i64 f, .int .i64 t, .int .i64 m, .int .i64 fr] 33) (.cells #[.slice a n cap] 30) (.cells #[.slice none 0 0] 30)
  go_enter Try.func16, Try.ntmps16
  go_wp2_with fail
  refine (copyLS a l n cap HL.out hn HQ.out _ (HR.out.keep FW_3.out (Nat.le_refl _))).mono ?_
  rintro e w1 ⟨g1, c1, rfl, ho1, hb1⟩
  have N_8 : Hid (((((w.alloc (.cells #[.int .i64 k, .int .i64 f, .int .i64 t, .int .i64 m, .int .i64 fr] 33)).alloc (.cells #[.slice a n cap] 30)).alloc (.cells #[.slice none 0 0] 30))).heap.size ≤ (w1).heap.size) := (hb1).size
  have FW_9 : Hid (Below w.heap.size w (w1)) := bel_on (Nat.le_refl _) FW_3.out (hb1)
  have FP_10 : Hid ((w1).heap[w.heap.size]? = some (.cells #[.int .i64 k, .int .i64 f, .int .i64 t, .int .i64 m, .int .i64 fr] 33)) := row_on FP_5.out (hb1)
  have FL_11 : Hid ((w1).heap[w.heap.size + 1]? = some (.cells #[.slice a n cap] 30)) := row_on FL_6.out (hb1)
  have FZ_12 : Hid ((w1).heap[w.heap.size + 1 + 1]? = some (.cells #[.slice none 0 0] 30)) := row_on FZ_7.out (hb1)
  clear FW_3 FP_5 FL_6 FZ_7
  have ho1s : w.heap.size + 1 + 1 < g1 := by have := ho1.ge; simp at this; omega
  have N_13 : Hid (w.heap.size + 1 + 1 < g1 ∧ g1 < w1.heap.size) := ⟨ho1s, ho1.lt⟩
  have FG_14 : Hid (OwnG (w1) w.heap.size g1 n c1 l) := ho1.mono (by simp; omega)
  clear ho1 ho1s hb1
  have N_15 : Hid ((w1).heap.size ≤ ((w1.alloc (.cells #[.slice (some ⟨g1, 0, none⟩) n c1] 30))).heap.size) := (al1_b w1 (.cells #[.slice (some ⟨g1, 0, none⟩) n c1] 30)).size
  have FW_16 : Hid (Below w.heap.size w ((w1.alloc (.cells #[.slice (some ⟨g1, 0, none⟩) n c1] 30)))) := bel_on (Nat.le_refl _) FW_9.out (al1_b w1 (.cells #[.slice (some ⟨g1, 0, none⟩) n c1] 30))
  have FP_17 : Hid (((w1.alloc (.cells #[.slice (some ⟨g1, 0, none⟩) n c1] 30))).heap[w.heap.size]? = some (.cells #[.int .i64 k, .int .i64 f, .int .i64 t, .int .i64 m, .int .i64 fr] 33)) := row_on FP_10.out (al1_b w1 (.cells #[.slice (some ⟨g1, 0, none⟩) n c1] 30))
  have FL_18 : Hid (((w1.alloc (.cells #[.slice (some ⟨g1, 0, none⟩) n c1] 30))).heap[w.heap.size + 1]? = some (.cells #[.slice a n cap] 30)) := row_on FL_11.out (al1_b w1 (.cells #[.slice (some ⟨g1, 0, none⟩) n c1] 30))
  have FZ_19 : Hid (((w1.alloc (.cells #[.slice (some ⟨g1, 0, none⟩) n c1] 30))).heap[w.heap.size + 1 + 1]? = some (.cells #[.slice none 0 0] 30)) := row_on FZ_12.out (al1_b w1 (.cells #[.slice (some ⟨g1, 0, none⟩) n c1] 30))
  have FG_20 : Hid (OwnG ((w1.alloc (.cells #[.slice (some ⟨g1, 0, none⟩) n c1] 30))) w.heap.size g1 n c1 l) := OwnG.on FG_14.out (al1_b w1 (.cells #[.slice (some ⟨g1, 0, none⟩) n c1] 30))
  clear FW_9 FP_10 FL_11 FZ_12 FG_14
  have N_21 : Hid ((w1.alloc (.cells #[.slice (some ⟨g1, 0, none⟩) n c1] 30)).heap.size = w1.heap.size + 1) := al1_s w1 (.cells #[.slice (some ⟨g1, 0, none⟩) n c1] 30)
  have FO_22 : Hid (((w1.alloc (.cells #[.slice (some ⟨g1, 0, none⟩) n c1] 30))).heap[w1.heap.size]? = some (.cells #[.slice (some ⟨g1, 0, none⟩) n c1] 30)) := al1_1 w1 (.cells #[.slice (some ⟨g1, 0, none⟩) n c1] 30)
  have kP := box5_cells FP_17.out
  go_wp2_with fail
  clear kP
  refine (portokS k f t m fr b HPB.out _).mono ?_
  rintro e w2 ⟨rfl, hb2⟩
  have N_23 : Hid (((w1.alloc (.cells #[.slice (some ⟨g1, 0, none⟩) n c1] 30))).heap.size ≤ (w2).heap.size) := (hb2).size
  have FW_24 : Hid (Below w.heap.size w (w2)) := bel_on (Nat.le_refl _) FW_16.out (hb2)
  have FP_25 : Hid ((w2).heap[w.heap.size]? = some (.cells #[.int .i64 k, .int .i64 f, .int .i64 t, .int .i64 m, .int .i64 fr] 33)) := row_on FP_17.out (hb2)
  have FL_26 : Hid ((w2).heap[w.heap.size + 1]? = some (.cells #[.slice a n cap] 30)) := row_on FL_18.out (hb2)
  have FZ_27 : Hid ((w2).heap[w.heap.size + 1 + 1]? = some (.cells #[.slice none 0 0] 30)) := row_on FZ_19.out (hb2)
  have FG_28 : Hid (OwnG (w2) w.heap.size g1 n c1 l) := OwnG.on FG_20.out (hb2)
  have FO_29 : Hid ((w2).heap[w1.heap.size]? = some (.cells #[.slice (some ⟨g1, 0, none⟩) n c1] 30)) := row_on FO_22.out (hb2)
  clear FW_16 FP_17 FL_18 FZ_19 FG_20 FO_22 hb2
  cases b with
  | false =>
    obtain rfl : l = L := by have := HLL.out; unfold takeL at this; simpa using this
    obtain rfl : n = N := by rw [← HL.out, HNN.out]
    obtain rfl : 0 = U := by have := HUU.out; unfold takeN at this; simpa using this
    obtain rfl : 2 = C := by have := HCC.out; unfold takeC at this; simpa using this
    clear HLL HNN HUU HCC HPB
    have kO := row1_cells FO_29.out
    have kZ := row1_cells FZ_27.out
    go_wp2
    refine bodyPost_ret (v := .tuple #[.agg #[.slice (some ⟨g1, 0, none⟩) n c1], .int .i64 0, .int .i64 2]) (by simp [results, Try.results16, go_sem, kZ]) rfl ⟨_, _, rfl, ?_, ?_⟩
    · exact OwnM.put (FG_28.out.own) FZ_27.out (by decide)
    · exact FW_24.out.setCell (by simp; omega) _
  | true =>
    by_cases h0 : n = 0
    · subst h0
      obtain rfl : l = [] := List.eq_nil_of_length_eq_zero HL.out
      obtain rfl : [] = L := by have := HLL.out; unfold takeL at this; simpa using this
      obtain rfl : 0 = N := HNN.out
      obtain rfl : 0 = U := by have := HUU.out; unfold takeN at this; simpa using this
      obtain rfl : 2 = C := by have := HCC.out; unfold takeC at this; simpa using this
      clear HLL HNN HUU HCC HPB
      have kL := row1_cells FL_26.out
      have kO := row1_cells FO_29.out
      have kZ := row1_cells FZ_27.out
      go_wp2
      refine bodyPost_ret (v := .tuple #[.agg #[.slice (some ⟨g1, 0, none⟩) 0 c1], .int .i64 0, .int .i64 2]) (by simp [results, Try.results16, go_sem, kZ]) rfl ⟨_, _, rfl, ?_, ?_⟩
      · exact OwnM.put (FG_28.out.own) FZ_27.out (by decide)
      · exact FW_24.out.setCell (by simp; omega) _
    · obtain ⟨⟨x0, s0⟩, l', rfl⟩ : ∃ p l', l = p :: l' := by
        cases l with
        | nil => exact absurd HL.out.symm h0
        | cons p l' => exact ⟨p, l', rfl⟩
      obtain ⟨n', rfl⟩ : ∃ n', n = n' + 1 := ⟨n - 1, by omega⟩
      obtain ⟨c', rfl⟩ : ∃ c', cap = c' + 1 := ⟨cap - 1, by omega⟩
      obtain ⟨ga, oa, ha, hca⟩ := HR.out (by simp)
      subst ha
      have hc0 := hca 0 (by simp)
      have kc0 : w2.cell? ⟨ga, oa, none⟩ = some (.int .i64 x0) ∧ w2.cell? ⟨ga, oa + 1, none⟩ = some (.int .i64 s0) := ⟨cell_on (by simpa using hc0.1) FW_24.out, cell_on (by simpa using hc0.2) FW_24.out⟩
      have HL' : Hid (l'.length = n') := by have := HL.out; simp at this; exact this
      have HRT : Hid (RdR w2 (some ⟨ga, oa + 2, none⟩) l') := hid (RdR.tail (RdR.keep HR.out FW_24.out (Nat.le_refl _)))
      clear hca hc0
      have HPR := HPB.out.1 rfl
      clear HPB h0
      have HFR : Hid (k = 2 → 1 ≤ fr ∧ fr ≤ 100) := fun e => by rcases HPR.2.2.2 with q | q; exact absurd (q.1.symm.trans e) (by decide); exact q.2.2
      have hk12 : k = 1 ∨ k = 2 := by rcases HPR.2.2.2 with q | q; exact .inl q.1; exact .inr q.1
      clear HPR
      rcases hk12 with hk | hk
      · subst hk
        obtain rfl : l' = L := by have := HLL.out; unfold takeL at this; simpa using this
        obtain rfl : n' = N := by rw [← HL'.out, HNN.out]
        obtain rfl : x0 = U := by have := HUU.out; unfold takeN at this; simpa using this
        obtain rfl : 0 = C := by have := HCC.out; unfold takeC at this; simpa using this
        clear HLL HNN HUU HCC HFR
        have kL := row1_cells FL_26.out
        have kP := box5_cells (row_on FP_25.out (al1_b w2 (.cells #[.int .i64 x0, .int .i64 s0] 52)))
        have kL2 := row1_cells (row_on FL_26.out (al2_b w2 (.cells #[.int .i64 x0, .int .i64 s0] 52) (.cells #[] 52)))
        clear FG_28
        have HRS : Hid (RdR ((w2.alloc (.cells #[.int .i64 x0, .int .i64 s0] 52)).alloc (.cells #[] 52)) (if c' = 0 then some ⟨ga, oa, none⟩ else some ⟨ga, oa + 2, none⟩) l') := hid (by
          by_cases h0 : c' = 0
          · rw [if_pos h0]; obtain rfl : l' = [] := List.eq_nil_of_length_eq_zero (by have := HL'.out; omega)
            exact fun h => by simp at h
          · rw [if_neg h0]; exact HRT.out.on (al2_b w2 _ _))
        have HSQ : Hid ((if c' = 0 then some (⟨ga, oa, none⟩ : Addr) else some ⟨ga, oa + 2, none⟩) = none → n' = 0 ∧ c' = 0) := fun h => by by_cases h0 : c' = 0 <;> simp [h0] at h
        have HOE : Hid (OwnG ((w2.alloc (.cells #[.int .i64 x0, .int .i64 s0] 52)).alloc (.cells #[] 52)) w.heap.size (w2.heap.size + 1) 0 0 []) := hid (by have := ownG_empty (w2.alloc (.cells #[.int .i64 x0, .int .i64 s0] 52)) w.heap.size (by simp; exact (by have n0_ := N_4.out; have n1_ := N_8.out; have n2_ := N_13.out; have n3_ := N_21.out; have n4_ := N_23.out; omega)); simpa using this)
        have HSZ : w.heap.size ≤ ((w2.alloc (.cells #[.int .i64 x0, .int .i64 s0] 52)).alloc (.cells #[] 52)).heap.size := by simp; exact (by have n0_ := N_4.out; have n1_ := N_8.out; have n2_ := N_13.out; have n3_ := N_21.out; have n4_ := N_23.out; omega)
        generalize hsr : (if c' = 0 then some (⟨ga, oa, none⟩ : Addr) else some ⟨ga, oa + 2, none⟩) = sr at *
        go_wp2_with (at_builtin; (try rw [hsr]); refine listM rfl _ _ rfl w.heap.size (w2.heap.size + 1) 0 0 [] sr n' c' l' rfl rfl HOE.out HL'.out HSQ.out HRS.out (by omega) HSZ ?_)
        intro g4 c4 w4 hown4 hgrow4
        clear kL kP kL2 kc0 HRS HSQ HSZ HOE HRT
        have N_30 : Hid ((w2).heap.size ≤ (((w2.alloc (.cells #[.int .i64 x0, .int .i64 s0] 52)).alloc (.cells #[] 52))).heap.size) := (al2_b w2 (.cells #[.int .i64 x0, .int .i64 s0] 52) (.cells #[] 52)).size
        have FW_31 : Hid (Below w.heap.size w (((w2.alloc (.cells #[.int .i64 x0, .int .i64 s0] 52)).alloc (.cells #[] 52)))) := bel_on (Nat.le_refl _) FW_24.out (al2_b w2 (.cells #[.int .i64 x0, .int .i64 s0] 52) (.cells #[] 52))
        have FP_32 : Hid ((((w2.alloc (.cells #[.int .i64 x0, .int .i64 s0] 52)).alloc (.cells #[] 52))).heap[w.heap.size]? = some (.cells #[.int .i64 1, .int .i64 f, .int .i64 t, .int .i64 m, .int .i64 fr] 33)) := row_on FP_25.out (al2_b w2 (.cells #[.int .i64 x0, .int .i64 s0] 52) (.cells #[] 52))
        have FL_33 : Hid ((((w2.alloc (.cells #[.int .i64 x0, .int .i64 s0] 52)).alloc (.cells #[] 52))).heap[w.heap.size + 1]? = some (.cells #[.slice (some ⟨ga, oa, none⟩) (n' + 1) (c' + 1)] 30)) := row_on FL_26.out (al2_b w2 (.cells #[.int .i64 x0, .int .i64 s0] 52) (.cells #[] 52))
        have FZ_34 : Hid ((((w2.alloc (.cells #[.int .i64 x0, .int .i64 s0] 52)).alloc (.cells #[] 52))).heap[w.heap.size + 1 + 1]? = some (.cells #[.slice none 0 0] 30)) := row_on FZ_27.out (al2_b w2 (.cells #[.int .i64 x0, .int .i64 s0] 52) (.cells #[] 52))
        have FO_35 : Hid ((((w2.alloc (.cells #[.int .i64 x0, .int .i64 s0] 52)).alloc (.cells #[] 52))).heap[w1.heap.size]? = some (.cells #[.slice (some ⟨g1, 0, none⟩) (n' + 1) c1] 30)) := row_on FO_29.out (al2_b w2 (.cells #[.int .i64 x0, .int .i64 s0] 52) (.cells #[] 52))
        clear FW_24 FP_25 FL_26 FZ_27 FO_29
        have N_36 : Hid (((w2.alloc (.cells #[.int .i64 x0, .int .i64 s0] 52)).alloc (.cells #[] 52)).heap.size = w2.heap.size + 2) := al2_s w2 (.cells #[.int .i64 x0, .int .i64 s0] 52) (.cells #[] 52)
        have FM_37 : Hid ((((w2.alloc (.cells #[.int .i64 x0, .int .i64 s0] 52)).alloc (.cells #[] 52))).heap[w2.heap.size]? = some (.cells #[.int .i64 x0, .int .i64 s0] 52)) := al2_1 w2 (.cells #[.int .i64 x0, .int .i64 s0] 52) (.cells #[] 52)
        have FE_38 : Hid ((((w2.alloc (.cells #[.int .i64 x0, .int .i64 s0] 52)).alloc (.cells #[] 52))).heap[w2.heap.size + 1]? = some (.cells #[] 52)) := al2_2 w2 (.cells #[.int .i64 x0, .int .i64 s0] 52) (.cells #[] 52)
        clear FE_38
        have N_39 : Hid ((((w2.alloc (.cells #[.int .i64 x0, .int .i64 s0] 52)).alloc (.cells #[] 52))).heap.size ≤ (w4).heap.size) := (hgrow4).size
        have FW_40 : Hid (Below w.heap.size w (w4)) := FW_31.out.grown (hgrow4) FW_31.out.size (fun k hk => by cases hk; exact (by have n0_ := N_4.out; have n1_ := N_8.out; have n2_ := N_13.out; have n3_ := N_21.out; have n4_ := N_23.out; have n5_ := N_36.out; have n6_ := N_39.out; omega))
        have FP_41 : Hid ((w4).heap[w.heap.size]? = some (.cells #[.int .i64 1, .int .i64 f, .int .i64 t, .int .i64 m, .int .i64 fr] 33)) := grown_row (hgrow4) FP_32.out (fun e => by have e_ := Option.some.inj e; have n0_ := N_4.out; have n1_ := N_8.out; have n2_ := N_13.out; have n3_ := N_21.out; have n4_ := N_23.out; have n5_ := N_36.out; have n6_ := N_39.out; omega)
        have FL_42 : Hid ((w4).heap[w.heap.size + 1]? = some (.cells #[.slice (some ⟨ga, oa, none⟩) (n' + 1) (c' + 1)] 30)) := grown_row (hgrow4) FL_33.out (fun e => by have e_ := Option.some.inj e; have n0_ := N_4.out; have n1_ := N_8.out; have n2_ := N_13.out; have n3_ := N_21.out; have n4_ := N_23.out; have n5_ := N_36.out; have n6_ := N_39.out; omega)
        have FZ_43 : Hid ((w4).heap[w.heap.size + 1 + 1]? = some (.cells #[.slice none 0 0] 30)) := grown_row (hgrow4) FZ_34.out (fun e => by have e_ := Option.some.inj e; have n0_ := N_4.out; have n1_ := N_8.out; have n2_ := N_13.out; have n3_ := N_21.out; have n4_ := N_23.out; have n5_ := N_36.out; have n6_ := N_39.out; omega)
        have FO_44 : Hid ((w4).heap[w1.heap.size]? = some (.cells #[.slice (some ⟨g1, 0, none⟩) (n' + 1) c1] 30)) := grown_row (hgrow4) FO_35.out (fun e => by have e_ := Option.some.inj e; have n0_ := N_4.out; have n1_ := N_8.out; have n2_ := N_13.out; have n3_ := N_21.out; have n4_ := N_23.out; have n5_ := N_36.out; have n6_ := N_39.out; omega)
        have FM_45 : Hid ((w4).heap[w2.heap.size]? = some (.cells #[.int .i64 x0, .int .i64 s0] 52)) := grown_row (hgrow4) FM_37.out (fun e => by have e_ := Option.some.inj e; have n0_ := N_4.out; have n1_ := N_8.out; have n2_ := N_13.out; have n3_ := N_21.out; have n4_ := N_23.out; have n5_ := N_36.out; have n6_ := N_39.out; omega)
        clear FW_31 FP_32 FL_33 FZ_34 FO_35 FM_37 hgrow4
        have N_46 : Hid (w.heap.size ≤ g4 ∧ g4 < w4.heap.size) := ⟨hown4.ge, hown4.lt⟩
        have HG4 : Hid (OwnG w4 w.heap.size g4 n' c4 l') := hown4
        clear hown4
        have kO := row1_cells FO_44.out
        go_wp2_with fail
        have hneM : w2.heap.size ≠ w1.heap.size := (by have n0_ := N_4.out; have n1_ := N_8.out; have n2_ := N_13.out; have n3_ := N_21.out; have n4_ := N_23.out; have n5_ := N_36.out; have n6_ := N_39.out; have n7_ := N_46.out; omega)
        have hneZ : w.heap.size + 1 + 1 ≠ w1.heap.size := (by have n0_ := N_4.out; have n1_ := N_8.out; have n2_ := N_13.out; have n3_ := N_21.out; have n4_ := N_23.out; have n5_ := N_36.out; have n6_ := N_39.out; have n7_ := N_46.out; omega)
        have HOn : Hid ((w4.setCell ⟨w1.heap.size, 0, none⟩ (.slice (some ⟨g4, 0, none⟩) n' c4)).heap[w1.heap.size]? = some (.cells #[(.slice (some ⟨g4, 0, none⟩) n' c4)] 30)) := set_one FO_44.out
        have HMn : Hid ((w4.setCell ⟨w1.heap.size, 0, none⟩ (.slice (some ⟨g4, 0, none⟩) n' c4)).heap[w2.heap.size]? = some (.cells #[.int .i64 x0, .int .i64 s0] 52)) := set_other FM_45.out hneM
        have HZn : Hid ((w4.setCell ⟨w1.heap.size, 0, none⟩ (.slice (some ⟨g4, 0, none⟩) n' c4)).heap[w.heap.size + 1 + 1]? = some (.cells #[.slice none 0 0] 30)) := set_other FZ_43.out hneZ
        have HWn : Hid (Below w.heap.size w (w4.setCell ⟨w1.heap.size, 0, none⟩ (.slice (some ⟨g4, 0, none⟩) n' c4))) := FW_40.out.setCell (show w.heap.size ≤ w1.heap.size from (by have n0_ := N_4.out; have n1_ := N_8.out; have n2_ := N_13.out; have n3_ := N_21.out; have n4_ := N_23.out; have n5_ := N_36.out; have n6_ := N_39.out; have n7_ := N_46.out; omega)) _
        have HGn : Hid (OwnM (w4.setCell ⟨w1.heap.size, 0, none⟩ (.slice (some ⟨g4, 0, none⟩) n' c4)) w.heap.size (some ⟨g4, 0, none⟩) l') := OwnM.put HG4.out.own FO_44.out (by decide)
        clear kO HG4
        generalize hW5 : w4.setCell ⟨w1.heap.size, 0, none⟩ (.slice (some ⟨g4, 0, none⟩) n' c4) = w5 at *
        clear hW5
        have HQ : Hid (w5.cell? ⟨w1.heap.size, 0, none⟩ = some (.slice (some ⟨g4, 0, none⟩) n' c4) ∧ w5.cell? ⟨w2.heap.size, 0, none⟩ = some (.int .i64 x0) ∧ w5.cell? ⟨w2.heap.size, 1, none⟩ = some (.int .i64 s0)) := ⟨(row1_cells HOn.out).1, (row2_cells HMn.out).1, (row2_cells HMn.out).2.1⟩
        have hlO : w1.heap.size ≠ w.heap.size + 1 + 1 := (by have n0_ := N_4.out; have n1_ := N_8.out; have n2_ := N_13.out; have n3_ := N_21.out; have n4_ := N_23.out; have n5_ := N_36.out; have n6_ := N_39.out; have n7_ := N_46.out; omega)
        have hlM : w2.heap.size ≠ w.heap.size + 1 + 1 := (by have n0_ := N_4.out; have n1_ := N_8.out; have n2_ := N_13.out; have n3_ := N_21.out; have n4_ := N_23.out; have n5_ := N_36.out; have n6_ := N_39.out; have n7_ := N_46.out; omega)
        have kZ := row1_cells HZn.out
        have kZd : w5.drew.cell? ⟨w.heap.size + 1 + 1, 0, none⟩ = _ ∧ w5.drew.frozen? ⟨w.heap.size + 1 + 1, 0, none⟩ = _ := kZ
        go_wp2_with fail
        go_region_held3 (fun w' => w'.cell? ⟨w1.heap.size, 0, none⟩ = some (.slice (some ⟨g4, 0, none⟩) n' c4) ∧ w'.cell? ⟨w2.heap.size, 0, none⟩ = some (.int .i64 x0) ∧ w'.cell? ⟨w2.heap.size, 1, none⟩ = some (.int .i64 s0)) (first | (with_reducible exact q3_keep (q3_set HQ.out hlO hlM hlM) (Below.refl _ _).drew) | (with_reducible exact q3_keep HQ.out (Below.refl _ _).drew)) (fail)
        rename_i HH
        clear HH HQ
        go_wp2
        refine bodyPost_ret (v := .tuple #[.agg #[.slice (some ⟨g4, 0, none⟩) n' c4], .int .i64 x0, .int .i64 0]) (by simp [results, Try.results16, go_sem, kZ]) rfl ⟨_, _, rfl, ?_, ?_⟩
        · exact (OwnM.put (HGn.out) HZn.out (by decide)).on ((Below.refl _ _).drew)
        · exact (HWn.out.setCell (by simp; omega) _).drew
      · subst hk
        obtain rfl : (x0, s0) :: l' = L := by have := HLL.out; unfold takeL at this; simpa using this
        obtain rfl : n' + 1 = N := by rw [← HL.out, HNN.out]
        obtain rfl : x0 = U := by have := HUU.out; unfold takeN at this; simpa using this
        have hfr := HFR.out rfl
        have hs0 : InI s0 := HSI.out (x0, s0) (by simp)
        have hy0 := HYI.out
        unfold InI at hs0 hy0
        have HC2 : Hid (ageC y s0 fr = C) := by have := HCC.out; unfold takeC at this; simpa [Hid] using this
        clear HLL HNN HUU HCC HFR HRT
        have kL := row1_cells FL_26.out
        have kP := box5_cells (row_on FP_25.out (al1_b w2 (.cells #[.int .i64 x0, .int .i64 s0] 52)))
        by_cases h1 : y ≤ s0
        · have h1n : ¬ s0 < y := by omega
          obtain rfl : 0 = C := by have := HC2.out; unfold ageC at this; rw [if_pos h1] at this; exact this
          clear HC2
          go_wp2_with fail
          clear kL kP kc0
          have N_30 : Hid ((w2).heap.size ≤ ((w2.alloc (.cells #[.int .i64 x0, .int .i64 s0] 52))).heap.size) := (al1_b w2 (.cells #[.int .i64 x0, .int .i64 s0] 52)).size
          have FW_31 : Hid (Below w.heap.size w ((w2.alloc (.cells #[.int .i64 x0, .int .i64 s0] 52)))) := bel_on (Nat.le_refl _) FW_24.out (al1_b w2 (.cells #[.int .i64 x0, .int .i64 s0] 52))
          have FP_32 : Hid (((w2.alloc (.cells #[.int .i64 x0, .int .i64 s0] 52))).heap[w.heap.size]? = some (.cells #[.int .i64 2, .int .i64 f, .int .i64 t, .int .i64 m, .int .i64 fr] 33)) := row_on FP_25.out (al1_b w2 (.cells #[.int .i64 x0, .int .i64 s0] 52))
          have FL_33 : Hid (((w2.alloc (.cells #[.int .i64 x0, .int .i64 s0] 52))).heap[w.heap.size + 1]? = some (.cells #[.slice (some ⟨ga, oa, none⟩) (n' + 1) (c' + 1)] 30)) := row_on FL_26.out (al1_b w2 (.cells #[.int .i64 x0, .int .i64 s0] 52))
          have FZ_34 : Hid (((w2.alloc (.cells #[.int .i64 x0, .int .i64 s0] 52))).heap[w.heap.size + 1 + 1]? = some (.cells #[.slice none 0 0] 30)) := row_on FZ_27.out (al1_b w2 (.cells #[.int .i64 x0, .int .i64 s0] 52))
          have FG_35 : Hid (OwnG ((w2.alloc (.cells #[.int .i64 x0, .int .i64 s0] 52))) w.heap.size g1 (n' + 1) c1 ((x0, s0) :: l')) := OwnG.on FG_28.out (al1_b w2 (.cells #[.int .i64 x0, .int .i64 s0] 52))
          have FO_36 : Hid (((w2.alloc (.cells #[.int .i64 x0, .int .i64 s0] 52))).heap[w1.heap.size]? = some (.cells #[.slice (some ⟨g1, 0, none⟩) (n' + 1) c1] 30)) := row_on FO_29.out (al1_b w2 (.cells #[.int .i64 x0, .int .i64 s0] 52))
          clear FW_24 FP_25 FL_26 FZ_27 FG_28 FO_29
          have N_37 : Hid ((w2.alloc (.cells #[.int .i64 x0, .int .i64 s0] 52)).heap.size = w2.heap.size + 1) := al1_s w2 (.cells #[.int .i64 x0, .int .i64 s0] 52)
          have FM_38 : Hid (((w2.alloc (.cells #[.int .i64 x0, .int .i64 s0] 52))).heap[w2.heap.size]? = some (.cells #[.int .i64 x0, .int .i64 s0] 52)) := al1_1 w2 (.cells #[.int .i64 x0, .int .i64 s0] 52)
          generalize hW5 : (w2.alloc (.cells #[.int .i64 x0, .int .i64 s0] 52)) = w5 at *
          clear hW5
          have HQ : Hid (w5.cell? ⟨w1.heap.size, 0, none⟩ = some (.slice (some ⟨g1, 0, none⟩) (n' + 1) c1) ∧ w5.cell? ⟨w2.heap.size, 0, none⟩ = some (.int .i64 x0) ∧ w5.cell? ⟨w2.heap.size, 1, none⟩ = some (.int .i64 s0)) := ⟨(row1_cells FO_36.out).1, (row2_cells FM_38.out).1, (row2_cells FM_38.out).2.1⟩
          have hlO : w1.heap.size ≠ w.heap.size + 1 + 1 := (by have n0_ := N_4.out; have n1_ := N_8.out; have n2_ := N_13.out; have n3_ := N_21.out; have n4_ := N_23.out; have n5_ := N_37.out; omega)
          have hlM : w2.heap.size ≠ w.heap.size + 1 + 1 := (by have n0_ := N_4.out; have n1_ := N_8.out; have n2_ := N_13.out; have n3_ := N_21.out; have n4_ := N_23.out; have n5_ := N_37.out; omega)
          have kZ := row1_cells FZ_34.out
          have kZd : w5.drew.cell? ⟨w.heap.size + 1 + 1, 0, none⟩ = _ ∧ w5.drew.frozen? ⟨w.heap.size + 1 + 1, 0, none⟩ = _ := kZ
          go_wp2_with fail
          go_region_held3 (fun w' => w'.cell? ⟨w1.heap.size, 0, none⟩ = some (.slice (some ⟨g1, 0, none⟩) (n' + 1) c1) ∧ w'.cell? ⟨w2.heap.size, 0, none⟩ = some (.int .i64 x0) ∧ w'.cell? ⟨w2.heap.size, 1, none⟩ = some (.int .i64 s0)) (first | (with_reducible exact q3_keep (q3_set HQ.out hlO hlM hlM) (Below.refl _ _).drew) | (with_reducible exact q3_keep HQ.out (Below.refl _ _).drew)) (fail)
          rename_i HH
          clear HH HQ
          go_wp2
          refine bodyPost_ret (v := .tuple #[.agg #[.slice (some ⟨g1, 0, none⟩) (n' + 1) c1], .int .i64 x0, .int .i64 0]) (by simp [results, Try.results16, go_sem, kZ]) rfl ⟨_, _, rfl, ?_, ?_⟩
          · exact (OwnM.put (FG_35.out.own) FZ_34.out (by decide)).on ((Below.refl _ _).drew)
          · exact (FW_31.out.setCell (by simp; omega) _).drew
        · by_cases h2 : y - s0 ≤ fr
          · have h1n : s0 < y := by omega
            obtain rfl : 0 = C := by have := HC2.out; unfold ageC at this; rw [if_neg h1, if_pos h2] at this; exact this
            have hw1 : IntKind.i64.wrap (y - s0) = y - s0 := wrap_in (by omega) (by omega)
            have hw2 : wrap64 (y - s0) = y - s0 := wrap64_in (by omega) (by omega)
            have h3 : ¬ y - s0 < 0 := by omega
            have h4 : ¬ fr < y - s0 := by omega
            clear HC2
            go_wp2_with fail
            clear kL kP kc0
            have N_30 : Hid ((w2).heap.size ≤ ((w2.alloc (.cells #[.int .i64 x0, .int .i64 s0] 52))).heap.size) := (al1_b w2 (.cells #[.int .i64 x0, .int .i64 s0] 52)).size
            have FW_31 : Hid (Below w.heap.size w ((w2.alloc (.cells #[.int .i64 x0, .int .i64 s0] 52)))) := bel_on (Nat.le_refl _) FW_24.out (al1_b w2 (.cells #[.int .i64 x0, .int .i64 s0] 52))
            have FP_32 : Hid (((w2.alloc (.cells #[.int .i64 x0, .int .i64 s0] 52))).heap[w.heap.size]? = some (.cells #[.int .i64 2, .int .i64 f, .int .i64 t, .int .i64 m, .int .i64 fr] 33)) := row_on FP_25.out (al1_b w2 (.cells #[.int .i64 x0, .int .i64 s0] 52))
            have FL_33 : Hid (((w2.alloc (.cells #[.int .i64 x0, .int .i64 s0] 52))).heap[w.heap.size + 1]? = some (.cells #[.slice (some ⟨ga, oa, none⟩) (n' + 1) (c' + 1)] 30)) := row_on FL_26.out (al1_b w2 (.cells #[.int .i64 x0, .int .i64 s0] 52))
            have FZ_34 : Hid (((w2.alloc (.cells #[.int .i64 x0, .int .i64 s0] 52))).heap[w.heap.size + 1 + 1]? = some (.cells #[.slice none 0 0] 30)) := row_on FZ_27.out (al1_b w2 (.cells #[.int .i64 x0, .int .i64 s0] 52))
            have FG_35 : Hid (OwnG ((w2.alloc (.cells #[.int .i64 x0, .int .i64 s0] 52))) w.heap.size g1 (n' + 1) c1 ((x0, s0) :: l')) := OwnG.on FG_28.out (al1_b w2 (.cells #[.int .i64 x0, .int .i64 s0] 52))
            have FO_36 : Hid (((w2.alloc (.cells #[.int .i64 x0, .int .i64 s0] 52))).heap[w1.heap.size]? = some (.cells #[.slice (some ⟨g1, 0, none⟩) (n' + 1) c1] 30)) := row_on FO_29.out (al1_b w2 (.cells #[.int .i64 x0, .int .i64 s0] 52))
            clear FW_24 FP_25 FL_26 FZ_27 FG_28 FO_29
            have N_37 : Hid ((w2.alloc (.cells #[.int .i64 x0, .int .i64 s0] 52)).heap.size = w2.heap.size + 1) := al1_s w2 (.cells #[.int .i64 x0, .int .i64 s0] 52)
            have FM_38 : Hid (((w2.alloc (.cells #[.int .i64 x0, .int .i64 s0] 52))).heap[w2.heap.size]? = some (.cells #[.int .i64 x0, .int .i64 s0] 52)) := al1_1 w2 (.cells #[.int .i64 x0, .int .i64 s0] 52)
            generalize hW5 : (w2.alloc (.cells #[.int .i64 x0, .int .i64 s0] 52)) = w5 at *
            clear hW5
            have HQ : Hid (w5.cell? ⟨w1.heap.size, 0, none⟩ = some (.slice (some ⟨g1, 0, none⟩) (n' + 1) c1) ∧ w5.cell? ⟨w2.heap.size, 0, none⟩ = some (.int .i64 x0) ∧ w5.cell? ⟨w2.heap.size, 1, none⟩ = some (.int .i64 s0)) := ⟨(row1_cells FO_36.out).1, (row2_cells FM_38.out).1, (row2_cells FM_38.out).2.1⟩
            have hlO : w1.heap.size ≠ w.heap.size + 1 + 1 := (by have n0_ := N_4.out; have n1_ := N_8.out; have n2_ := N_13.out; have n3_ := N_21.out; have n4_ := N_23.out; have n5_ := N_37.out; omega)
            have hlM : w2.heap.size ≠ w.heap.size + 1 + 1 := (by have n0_ := N_4.out; have n1_ := N_8.out; have n2_ := N_13.out; have n3_ := N_21.out; have n4_ := N_23.out; have n5_ := N_37.out; omega)
            have kZ := row1_cells FZ_34.out
            have kZd : w5.drew.cell? ⟨w.heap.size + 1 + 1, 0, none⟩ = _ ∧ w5.drew.frozen? ⟨w.heap.size + 1 + 1, 0, none⟩ = _ := kZ
            go_wp2_with fail
            go_region_held3 (fun w' => w'.cell? ⟨w1.heap.size, 0, none⟩ = some (.slice (some ⟨g1, 0, none⟩) (n' + 1) c1) ∧ w'.cell? ⟨w2.heap.size, 0, none⟩ = some (.int .i64 x0) ∧ w'.cell? ⟨w2.heap.size, 1, none⟩ = some (.int .i64 s0)) (first | (with_reducible exact q3_keep (q3_set HQ.out hlO hlM hlM) (Below.refl _ _).drew) | (with_reducible exact q3_keep HQ.out (Below.refl _ _).drew)) (fail)
            rename_i HH
            clear HH HQ
            go_wp2
            refine bodyPost_ret (v := .tuple #[.agg #[.slice (some ⟨g1, 0, none⟩) (n' + 1) c1], .int .i64 x0, .int .i64 0]) (by simp [results, Try.results16, go_sem, kZ]) rfl ⟨_, _, rfl, ?_, ?_⟩
            · exact (OwnM.put (FG_35.out.own) FZ_34.out (by decide)).on ((Below.refl _ _).drew)
            · exact (FW_31.out.setCell (by simp; omega) _).drew
          · by_cases h5 : y - s0 ≤ 9223372036854775807
            · have h1n : s0 < y := by omega
              obtain rfl : 3 = C := by have := HC2.out; unfold ageC at this; rw [if_neg h1, if_neg h2] at this; exact this
              have hw1 : IntKind.i64.wrap (y - s0) = y - s0 := wrap_in (by omega) (by omega)
              have hw2 : wrap64 (y - s0) = y - s0 := wrap64_in (by omega) (by omega)
              have h3 : ¬ y - s0 < 0 := by omega
              have h4 : fr < y - s0 := by omega
              clear HC2
              go_wp2_with fail
              clear kL kP kc0
              have N_30 : Hid ((w2).heap.size ≤ ((w2.alloc (.cells #[.int .i64 x0, .int .i64 s0] 52))).heap.size) := (al1_b w2 (.cells #[.int .i64 x0, .int .i64 s0] 52)).size
              have FW_31 : Hid (Below w.heap.size w ((w2.alloc (.cells #[.int .i64 x0, .int .i64 s0] 52)))) := bel_on (Nat.le_refl _) FW_24.out (al1_b w2 (.cells #[.int .i64 x0, .int .i64 s0] 52))
              have FP_32 : Hid (((w2.alloc (.cells #[.int .i64 x0, .int .i64 s0] 52))).heap[w.heap.size]? = some (.cells #[.int .i64 2, .int .i64 f, .int .i64 t, .int .i64 m, .int .i64 fr] 33)) := row_on FP_25.out (al1_b w2 (.cells #[.int .i64 x0, .int .i64 s0] 52))
              have FL_33 : Hid (((w2.alloc (.cells #[.int .i64 x0, .int .i64 s0] 52))).heap[w.heap.size + 1]? = some (.cells #[.slice (some ⟨ga, oa, none⟩) (n' + 1) (c' + 1)] 30)) := row_on FL_26.out (al1_b w2 (.cells #[.int .i64 x0, .int .i64 s0] 52))
              have FZ_34 : Hid (((w2.alloc (.cells #[.int .i64 x0, .int .i64 s0] 52))).heap[w.heap.size + 1 + 1]? = some (.cells #[.slice none 0 0] 30)) := row_on FZ_27.out (al1_b w2 (.cells #[.int .i64 x0, .int .i64 s0] 52))
              have FG_35 : Hid (OwnG ((w2.alloc (.cells #[.int .i64 x0, .int .i64 s0] 52))) w.heap.size g1 (n' + 1) c1 ((x0, s0) :: l')) := OwnG.on FG_28.out (al1_b w2 (.cells #[.int .i64 x0, .int .i64 s0] 52))
              have FO_36 : Hid (((w2.alloc (.cells #[.int .i64 x0, .int .i64 s0] 52))).heap[w1.heap.size]? = some (.cells #[.slice (some ⟨g1, 0, none⟩) (n' + 1) c1] 30)) := row_on FO_29.out (al1_b w2 (.cells #[.int .i64 x0, .int .i64 s0] 52))
              clear FW_24 FP_25 FL_26 FZ_27 FG_28 FO_29
              have N_37 : Hid ((w2.alloc (.cells #[.int .i64 x0, .int .i64 s0] 52)).heap.size = w2.heap.size + 1) := al1_s w2 (.cells #[.int .i64 x0, .int .i64 s0] 52)
              have FM_38 : Hid (((w2.alloc (.cells #[.int .i64 x0, .int .i64 s0] 52))).heap[w2.heap.size]? = some (.cells #[.int .i64 x0, .int .i64 s0] 52)) := al1_1 w2 (.cells #[.int .i64 x0, .int .i64 s0] 52)
              generalize hW5 : (w2.alloc (.cells #[.int .i64 x0, .int .i64 s0] 52)) = w5 at *
              clear hW5
              have HQ : Hid (w5.cell? ⟨w1.heap.size, 0, none⟩ = some (.slice (some ⟨g1, 0, none⟩) (n' + 1) c1) ∧ w5.cell? ⟨w2.heap.size, 0, none⟩ = some (.int .i64 x0) ∧ w5.cell? ⟨w2.heap.size, 1, none⟩ = some (.int .i64 s0)) := ⟨(row1_cells FO_36.out).1, (row2_cells FM_38.out).1, (row2_cells FM_38.out).2.1⟩
              have hlO : w1.heap.size ≠ w.heap.size + 1 + 1 := (by have n0_ := N_4.out; have n1_ := N_8.out; have n2_ := N_13.out; have n3_ := N_21.out; have n4_ := N_23.out; have n5_ := N_37.out; omega)
              have hlM : w2.heap.size ≠ w.heap.size + 1 + 1 := (by have n0_ := N_4.out; have n1_ := N_8.out; have n2_ := N_13.out; have n3_ := N_21.out; have n4_ := N_23.out; have n5_ := N_37.out; omega)
              have kZ := row1_cells FZ_34.out
              have kZd : w5.drew.cell? ⟨w.heap.size + 1 + 1, 0, none⟩ = _ ∧ w5.drew.frozen? ⟨w.heap.size + 1 + 1, 0, none⟩ = _ := kZ
              go_wp2_with fail
              go_region_held3 (fun w' => w'.cell? ⟨w1.heap.size, 0, none⟩ = some (.slice (some ⟨g1, 0, none⟩) (n' + 1) c1) ∧ w'.cell? ⟨w2.heap.size, 0, none⟩ = some (.int .i64 x0) ∧ w'.cell? ⟨w2.heap.size, 1, none⟩ = some (.int .i64 s0)) (first | (with_reducible exact q3_keep (q3_set HQ.out hlO hlM hlM) (Below.refl _ _).drew) | (with_reducible exact q3_keep HQ.out (Below.refl _ _).drew)) (fail)
              rename_i HH
              clear HH HQ
              go_wp2
              refine bodyPost_ret (v := .tuple #[.agg #[.slice (some ⟨g1, 0, none⟩) (n' + 1) c1], .int .i64 x0, .int .i64 3]) (by simp [results, Try.results16, go_sem, kZ]) rfl ⟨_, _, rfl, ?_, ?_⟩
              · exact (OwnM.put (FG_35.out.own) FZ_34.out (by decide)).on ((Below.refl _ _).drew)
              · exact (FW_31.out.setCell (by simp; omega) _).drew
            · have h1n : s0 < y := by omega
              obtain rfl : 3 = C := by have := HC2.out; unfold ageC at this; rw [if_neg h1, if_neg h2] at this; exact this
              have hw1 : IntKind.i64.wrap (y - s0) = y - s0 - 18446744073709551616 := by rw [IntKind.wrap_i64]; omega
              have hw2 : wrap64 (y - s0) = y - s0 - 18446744073709551616 := by rw [← i64_is]; exact hw1
              have h3 : y - s0 - 18446744073709551616 < 0 := by omega
              clear HC2
              go_wp2_with fail
              clear kL kP kc0
              have N_30 : Hid ((w2).heap.size ≤ ((w2.alloc (.cells #[.int .i64 x0, .int .i64 s0] 52))).heap.size) := (al1_b w2 (.cells #[.int .i64 x0, .int .i64 s0] 52)).size
              have FW_31 : Hid (Below w.heap.size w ((w2.alloc (.cells #[.int .i64 x0, .int .i64 s0] 52)))) := bel_on (Nat.le_refl _) FW_24.out (al1_b w2 (.cells #[.int .i64 x0, .int .i64 s0] 52))
              have FP_32 : Hid (((w2.alloc (.cells #[.int .i64 x0, .int .i64 s0] 52))).heap[w.heap.size]? = some (.cells #[.int .i64 2, .int .i64 f, .int .i64 t, .int .i64 m, .int .i64 fr] 33)) := row_on FP_25.out (al1_b w2 (.cells #[.int .i64 x0, .int .i64 s0] 52))
              have FL_33 : Hid (((w2.alloc (.cells #[.int .i64 x0, .int .i64 s0] 52))).heap[w.heap.size + 1]? = some (.cells #[.slice (some ⟨ga, oa, none⟩) (n' + 1) (c' + 1)] 30)) := row_on FL_26.out (al1_b w2 (.cells #[.int .i64 x0, .int .i64 s0] 52))
              have FZ_34 : Hid (((w2.alloc (.cells #[.int .i64 x0, .int .i64 s0] 52))).heap[w.heap.size + 1 + 1]? = some (.cells #[.slice none 0 0] 30)) := row_on FZ_27.out (al1_b w2 (.cells #[.int .i64 x0, .int .i64 s0] 52))
              have FG_35 : Hid (OwnG ((w2.alloc (.cells #[.int .i64 x0, .int .i64 s0] 52))) w.heap.size g1 (n' + 1) c1 ((x0, s0) :: l')) := OwnG.on FG_28.out (al1_b w2 (.cells #[.int .i64 x0, .int .i64 s0] 52))
              have FO_36 : Hid (((w2.alloc (.cells #[.int .i64 x0, .int .i64 s0] 52))).heap[w1.heap.size]? = some (.cells #[.slice (some ⟨g1, 0, none⟩) (n' + 1) c1] 30)) := row_on FO_29.out (al1_b w2 (.cells #[.int .i64 x0, .int .i64 s0] 52))
              clear FW_24 FP_25 FL_26 FZ_27 FG_28 FO_29
              have N_37 : Hid ((w2.alloc (.cells #[.int .i64 x0, .int .i64 s0] 52)).heap.size = w2.heap.size + 1) := al1_s w2 (.cells #[.int .i64 x0, .int .i64 s0] 52)
              have FM_38 : Hid (((w2.alloc (.cells #[.int .i64 x0, .int .i64 s0] 52))).heap[w2.heap.size]? = some (.cells #[.int .i64 x0, .int .i64 s0] 52)) := al1_1 w2 (.cells #[.int .i64 x0, .int .i64 s0] 52)
              generalize hW5 : (w2.alloc (.cells #[.int .i64 x0, .int .i64 s0] 52)) = w5 at *
              clear hW5
              have HQ : Hid (w5.cell? ⟨w1.heap.size, 0, none⟩ = some (.slice (some ⟨g1, 0, none⟩) (n' + 1) c1) ∧ w5.cell? ⟨w2.heap.size, 0, none⟩ = some (.int .i64 x0) ∧ w5.cell? ⟨w2.heap.size, 1, none⟩ = some (.int .i64 s0)) := ⟨(row1_cells FO_36.out).1, (row2_cells FM_38.out).1, (row2_cells FM_38.out).2.1⟩
              have hlO : w1.heap.size ≠ w.heap.size + 1 + 1 := (by have n0_ := N_4.out; have n1_ := N_8.out; have n2_ := N_13.out; have n3_ := N_21.out; have n4_ := N_23.out; have n5_ := N_37.out; omega)
              have hlM : w2.heap.size ≠ w.heap.size + 1 + 1 := (by have n0_ := N_4.out; have n1_ := N_8.out; have n2_ := N_13.out; have n3_ := N_21.out; have n4_ := N_23.out; have n5_ := N_37.out; omega)
              have kZ := row1_cells FZ_34.out
              have kZd : w5.drew.cell? ⟨w.heap.size + 1 + 1, 0, none⟩ = _ ∧ w5.drew.frozen? ⟨w.heap.size + 1 + 1, 0, none⟩ = _ := kZ
              go_wp2_with fail
              go_region_held3 (fun w' => w'.cell? ⟨w1.heap.size, 0, none⟩ = some (.slice (some ⟨g1, 0, none⟩) (n' + 1) c1) ∧ w'.cell? ⟨w2.heap.size, 0, none⟩ = some (.int .i64 x0) ∧ w'.cell? ⟨w2.heap.size, 1, none⟩ = some (.int .i64 s0)) (first | (with_reducible exact q3_keep (q3_set HQ.out hlO hlM hlM) (Below.refl _ _).drew) | (with_reducible exact q3_keep HQ.out (Below.refl _ _).drew)) (fail)
              rename_i HH
              clear HH HQ
              go_wp2
              refine bodyPost_ret (v := .tuple #[.agg #[.slice (some ⟨g1, 0, none⟩) (n' + 1) c1], .int .i64 x0, .int .i64 3]) (by simp [results, Try.results16, go_sem, kZ]) rfl ⟨_, _, rfl, ?_, ?_⟩
              · exact (OwnM.put (FG_35.out.own) FZ_34.out (by decide)).on ((Below.refl _ _).drew)
              · exact (FW_31.out.setCell (by simp; omega) _).drew
end Go.Proofs.Ytacpoandikheeaa
