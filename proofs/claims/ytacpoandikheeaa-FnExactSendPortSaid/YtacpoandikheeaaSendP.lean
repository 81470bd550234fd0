/-
  SendPort of the program: what it answers, and that its line is its own.
-/
import Derived.Test.YtacpoandikheeaaSendI
namespace Go.Proofs.Ytacpoandikheeaa
open Go.RowKit Go.PlainAid
set_option linter.unusedVariables false

/-- the line behind a message that is sent -/
def sendL (b : Bool) (k m : Int) (l : List (Int × Int)) (x y : Int) : List (Int × Int) := if b = true then (if k = 2 then [(x, y)] else if (l.length : Int) < m then l ++ [(x, y)] else l) else l
/-- what is told of it -/
def sendC (b : Bool) (k m : Int) (n : Nat) : Int := if b = true then (if k = 2 then 0 else if (n : Int) < m then 0 else 1) else 1

theorem q6_keep {W0 W' : World} {p1 p2 p3 p4 p5 p6 : Addr} {v1 v2 v3 v4 v5 v6 : Value} (h : W0.cell? p1 = some v1 ∧ W0.cell? p2 = some v2 ∧ W0.cell? p3 = some v3 ∧ W0.cell? p4 = some v4 ∧ W0.cell? p5 = some v5 ∧ W0.cell? p6 = some v6) (hB : Below W0.heap.size W0 W') :
    W'.cell? p1 = some v1 ∧ W'.cell? p2 = some v2 ∧ W'.cell? p3 = some v3 ∧ W'.cell? p4 = some v4 ∧ W'.cell? p5 = some v5 ∧ W'.cell? p6 = some v6 :=
  ⟨cell_on h.1 hB, cell_on h.2.1 hB, cell_on h.2.2.1 hB, cell_on h.2.2.2.1 hB, cell_on h.2.2.2.2.1 hB, cell_on h.2.2.2.2.2 hB⟩
theorem q6_set {W : World} {p1 p2 p3 p4 p5 p6 : Addr} {v1 v2 v3 v4 v5 v6 v : Value} {r i : Nat} (h : W.cell? p1 = some v1 ∧ W.cell? p2 = some v2 ∧ W.cell? p3 = some v3 ∧ W.cell? p4 = some v4 ∧ W.cell? p5 = some v5 ∧ W.cell? p6 = some v6)
    (h1 : p1.block < r) (h2 : p2.block < r) (h3 : p3.block < r) (h4 : p4.block < r) (h5 : p5.block < r) (h6 : p6.block < r) :
    (W.setCell ⟨r, i, none⟩ v).cell? p1 = some v1 ∧ (W.setCell ⟨r, i, none⟩ v).cell? p2 = some v2 ∧ (W.setCell ⟨r, i, none⟩ v).cell? p3 = some v3 ∧ (W.setCell ⟨r, i, none⟩ v).cell? p4 = some v4 ∧ (W.setCell ⟨r, i, none⟩ v).cell? p5 = some v5 ∧ (W.setCell ⟨r, i, none⟩ v).cell? p6 = some v6 := by
  have hB : Below r W (W.setCell ⟨r, i, none⟩ v) := (Below.refl r W).setCell (Nat.le_refl _) v
  exact ⟨(hB.cell h1).trans h.1, (hB.cell h2).trans h.2.1, (hB.cell h3).trans h.2.2.1, (hB.cell h4).trans h.2.2.2.1, (hB.cell h5).trans h.2.2.2.2.1, (hB.cell h6).trans h.2.2.2.2.2⟩
--WALK
set_option maxRecDepth 100000 in
set_option maxHeartbeats 4000000 in
theorem sendI (k f t m fr x y : Int) (a : Option Addr) (l : List (Int × Int)) (n cap : Nat) (b : Bool) (L : List (Int × Int)) (N : Nat) (C : Int) (hl : l.length = n) (hn : n ≤ 1048576) (hb : b = true ↔ PortR k f t m fr) (hL : sendL b k m l x y = L) (hN : L.length = N) (hC : sendC b k m n = C) (w : World) (hr : RdR w a l) :
    Calls Try.prog 12 #[PV k f t m fr, .agg #[.slice a n cap], .int .i64 x, .int .i64 y] w fun e w' => ∃ q c, e = .returned (.tuple #[.agg #[.slice q N c], .int .i64 C]) ∧ OwnM w' w.heap.size q L ∧ Below w.heap.size w w' := by
  have HX0 : Hid ((((w.alloc (.cells #[.int .i64 k, .int .i64 f, .int .i64 t, .int .i64 m, .int .i64 fr] 33)).alloc (.cells #[.slice a n cap] 30)).alloc (.cells #[.slice none 0 0] 30)).heap[w.heap.size]? = some (.cells #[.int .i64 k, .int .i64 f, .int .i64 t, .int .i64 m, .int .i64 fr] 33)) := al3_1 w _ _ _
  have HY0 : Hid ((((w.alloc (.cells #[.int .i64 k, .int .i64 f, .int .i64 t, .int .i64 m, .int .i64 fr] 33)).alloc (.cells #[.slice a n cap] 30)).alloc (.cells #[.slice none 0 0] 30)).heap[w.heap.size + 1]? = some (.cells #[.slice a n cap] 30)) := al3_2 w _ _ _
  have HZ0 : Hid ((((w.alloc (.cells #[.int .i64 k, .int .i64 f, .int .i64 t, .int .i64 m, .int .i64 fr] 33)).alloc (.cells #[.slice a n cap] 30)).alloc (.cells #[.slice none 0 0] 30)).heap[w.heap.size + 1 + 1]? = some (.cells #[.slice none 0 0] 30)) := al3_3 w _ _ _
  have HW0 : Hid (Below w.heap.size w (((w.alloc (.cells #[.int .i64 k, .int .i64 f, .int .i64 t, .int .i64 m, .int .i64 fr] 33)).alloc (.cells #[.slice a n cap] 30)).alloc (.cells #[.slice none 0 0] 30))) := al3_b w _ _ _
  have HR : Hid (RdR w a l) := hr
  have HL : Hid (l.length = n) := hl
  have HPB : Hid (b = true ↔ PortR k f t m fr) := hb
  have HLL : Hid (sendL b k m l x y = L) := hL
  have HNN : Hid (L.length = N) := hN
  have HCC : Hid (sendC b k m n = C) := hC
  have hl1 : w.heap.size < w.heap.size + 1 + 1 := by omega
  have hl2 : w.heap.size + 1 < w.heap.size + 1 + 1 := by omega
  clear hr hl hb hL hN hC
  go_enter Try.func12, Try.ntmps12
  go_wp2_with fail
  refine (copyL a l n cap HL.out hn _ (HR.out.keep HW0.out (Nat.le_refl _))).mono ?_
  rintro e w1 ⟨g, rfl, hg, hrow, hb1⟩
  have HX1 : Hid (_ = _) := set_other (k := w.heap.size + 1) (i := 0) (x := .slice (some ⟨g, 0, none⟩) n n) (row_on HX0.out hb1) (by omega)
  have HY1 : Hid (_ = _) := set_one (x' := .slice (some ⟨g, 0, none⟩) n n) (row_on HY0.out hb1)
  have HZ1 : Hid (_ = _) := set_other (k := w.heap.size + 1) (i := 0) (x := .slice (some ⟨g, 0, none⟩) n n) (row_on HZ0.out hb1) (by omega)
  have HW1 : Hid (Below w.heap.size w (w1.setCell ⟨w.heap.size + 1, 0, none⟩ (.slice (some ⟨g, 0, none⟩) n n))) := (bel_on (Nat.le_refl _) HW0.out hb1).setCell (by simp) _
  have HG : Hid (w.heap.size + 1 + 1 < g) := by simp at hg; show w.heap.size + 1 + 1 < g; omega
  have HROW1 : Hid (RowR (w1.setCell ⟨w.heap.size + 1, 0, none⟩ (.slice (some ⟨g, 0, none⟩) n n)) g l) := set_other hrow (by have := HG.out; omega)
  have ky := row1_cells (row_on HY0.out hb1)
  clear hg hrow hb1 HX0 HY0 HZ0 HW0 HR
  have kx := box5_cells HX1.out
  go_wp2_with fail
  clear ky kx
  refine (portokI k f t m fr b HPB.out _).mono ?_
  rintro e w2 ⟨rfl, hb2⟩
  have HX2 : Hid (_ = _) := row_on HX1.out hb2
  have HY2 : Hid (_ = _) := row_on HY1.out hb2
  have HZ2 : Hid (_ = _) := row_on HZ1.out hb2
  have HW2 : Hid (Below w.heap.size w w2) := bel_on (Nat.le_refl _) HW1.out hb2
  have HROW2 : Hid (RowR w2 g l) := HROW1.out.on hb2
  clear hb2 HX1 HY1 HZ1 HW1 HROW1
  cases b with
  | false =>
    have ky := row1_cells HY2.out
    have kz := row1_cells HZ2.out
    obtain rfl : l = L := HLL.out
    obtain rfl : n = N := by rw [← HL.out, HNN.out]
    obtain rfl : 1 = C := HCC.out
    clear HLL HNN HCC HPB HX2
    go_wp2
    refine bodyPost_ret (v := .tuple #[.agg #[.slice (some ⟨g, 0, none⟩) n n], .int .i64 1]) (by simp [results, Try.results12, go_sem, kz]) rfl ⟨_, _, rfl, ?_, ?_⟩
    · exact (HROW2.out.own (by have := HG.out; omega)).put HZ2.out (by decide)
    · exact HW2.out.setCell (by simp; omega) _
  | true =>
    have HPR := HPB.out.1 rfl
    clear HPB
    have HQ : Hid (w2.cell? ⟨w.heap.size, 0, none⟩ = some (.int .i64 k) ∧ w2.cell? ⟨w.heap.size, 1, none⟩ = some (.int .i64 f) ∧ w2.cell? ⟨w.heap.size, 2, none⟩ = some (.int .i64 t) ∧ w2.cell? ⟨w.heap.size, 3, none⟩ = some (.int .i64 m) ∧ w2.cell? ⟨w.heap.size, 4, none⟩ = some (.int .i64 fr) ∧ w2.cell? ⟨w.heap.size + 1, 0, none⟩ = some (.slice (some ⟨g, 0, none⟩) n n)) := ⟨(box5_cells HX2.out).1.1, (box5_cells HX2.out).1.2.1, (box5_cells HX2.out).1.2.2.1, (box5_cells HX2.out).1.2.2.2.1, (box5_cells HX2.out).1.2.2.2.2, (row1_cells HY2.out).1⟩
    rcases HPR.2.2.2 with ⟨hk, hm, hfr⟩ | ⟨hk, hm, hfr⟩
    · subst hk
      by_cases hroom : (n : Int) < m
      · obtain rfl : l ++ [(x, y)] = L := by have := HLL.out; unfold sendL at this; rw [HL.out] at this; simpa [hroom] using this
        obtain rfl : n + 1 = N := by rw [← HNN.out, ← HL.out]; simp
        obtain rfl : 0 = C := by have := HCC.out; unfold sendC at this; simpa [hroom] using this
        clear HLL HNN HCC HPR hm hfr
        go_wp2_with fail
        go_region_held3 (fun w' => w'.cell? ⟨w.heap.size, 0, none⟩ = some (.int .i64 1) ∧ w'.cell? ⟨w.heap.size, 1, none⟩ = some (.int .i64 f) ∧ w'.cell? ⟨w.heap.size, 2, none⟩ = some (.int .i64 t) ∧ w'.cell? ⟨w.heap.size, 3, none⟩ = some (.int .i64 m) ∧ w'.cell? ⟨w.heap.size, 4, none⟩ = some (.int .i64 fr) ∧ w'.cell? ⟨w.heap.size + 1, 0, none⟩ = some (.slice (some ⟨g, 0, none⟩) n n)) (first | (with_reducible exact q6_set (q6_keep HQ.out HB5.out) hl1 hl1 hl1 hl1 hl1 hl2) | (with_reducible exact q6_keep HQ.out HB5.out) | (with_reducible exact q6_keep HQ.out HBz.out) | (with_reducible exact q6_keep HQ.out (Below.refl _ _).drew)) (first | (go_at_call 28; refine (carr1 f t m fr _).mono ?_; rintro e w4 ⟨rfl, hb4⟩; have HBz : Hid (Below w2.heap.size w2 w4) := undrew hb4) | (go_at_call 27; refine (sendQ f t m fr x y g n l HL.out hn hroom _ (HROW2.out.on HBz.out)).mono ?_; rintro e w5 ⟨g', c', rfl, ho5, hb5⟩; have HB5 : Hid (Below w2.heap.size w2 w5) := bel_on (Nat.le_refl _) HBz.out hb5; have kz := row1_cells (row_on HZ2.out HB5.out)))
        rename_i HH
        have HO5 : Hid (OwnM w5 w.heap.size (some ⟨g', 0, none⟩) (l ++ [(x, y)])) := ho5.mono (bel_on (Nat.le_refl _) HW2.out HBz.out).size
        have HW5 : Hid (Below w.heap.size w w5) := bel_on (Nat.le_refl _) HW2.out HB5.out
        have HZ5 : Hid (_ = _) := row_on HZ2.out HB5.out
        clear HH hb4 hb5 ho5 HQ HBz HB5 HX2 HY2 HZ2 HROW2 HW2
        go_wp2
        refine bodyPost_ret (v := .tuple #[.agg #[.slice (some ⟨g', 0, none⟩) (n + 1) c'], .int .i64 0]) (by simp [results, Try.results12, go_sem, kz]) rfl ⟨_, _, rfl, ?_, ?_⟩
        · exact HO5.out.put HZ5.out (by decide)
        · exact HW5.out.setCell (by simp; omega) _
      · obtain rfl : l = L := by have := HLL.out; unfold sendL at this; rw [HL.out] at this; simpa [hroom] using this
        obtain rfl : n = N := by rw [← HL.out, HNN.out]
        obtain rfl : 1 = C := by have := HCC.out; unfold sendC at this; simpa [hroom] using this
        clear HLL HNN HCC HPR hm hfr
        go_wp2_with fail
        go_region_held3 (fun w' => w'.cell? ⟨w.heap.size, 0, none⟩ = some (.int .i64 1) ∧ w'.cell? ⟨w.heap.size, 1, none⟩ = some (.int .i64 f) ∧ w'.cell? ⟨w.heap.size, 2, none⟩ = some (.int .i64 t) ∧ w'.cell? ⟨w.heap.size, 3, none⟩ = some (.int .i64 m) ∧ w'.cell? ⟨w.heap.size, 4, none⟩ = some (.int .i64 fr) ∧ w'.cell? ⟨w.heap.size + 1, 0, none⟩ = some (.slice (some ⟨g, 0, none⟩) n n)) (first | (with_reducible exact q6_set (q6_keep HQ.out HB5.out) hl1 hl1 hl1 hl1 hl1 hl2) | (with_reducible exact q6_keep HQ.out HB5.out) | (with_reducible exact q6_keep HQ.out HBz.out) | (with_reducible exact q6_keep HQ.out (Below.refl _ _).drew)) (first | (go_at_call 28; refine (carr1 f t m fr _).mono ?_; rintro e w4 ⟨rfl, hb4⟩; have HBz : Hid (Below w2.heap.size w2 w4) := undrew hb4) | (go_at_call 27; refine (sendF f t m fr x y g n (by omega) _).mono ?_; rintro e w5 ⟨rfl, hb5⟩; have HB5 : Hid (Below w2.heap.size w2 w5) := bel_on (Nat.le_refl _) HBz.out hb5; have kz := row1_cells (row_on HZ2.out HB5.out)))
        rename_i HH
        have HO5 : Hid (OwnM w5 w.heap.size (some ⟨g, 0, none⟩) l) := (HROW2.out.on HB5.out).own (by have := HG.out; omega)
        have HW5 : Hid (Below w.heap.size w w5) := bel_on (Nat.le_refl _) HW2.out HB5.out
        have HZ5 : Hid (_ = _) := row_on HZ2.out HB5.out
        clear HH hb4 hb5 HQ HBz HB5 HX2 HY2 HZ2 HROW2 HW2
        go_wp2
        refine bodyPost_ret (v := .tuple #[.agg #[.slice (some ⟨g, 0, none⟩) n n], .int .i64 1]) (by simp [results, Try.results12, go_sem, kz]) rfl ⟨_, _, rfl, ?_, ?_⟩
        · exact HO5.out.put HZ5.out (by decide)
        · exact HW5.out.setCell (by simp; omega) _
    · subst hk
      obtain rfl : [(x, y)] = L := by have := HLL.out; unfold sendL at this; simpa using this
      obtain rfl : 1 = N := HNN.out
      obtain rfl : 0 = C := by have := HCC.out; unfold sendC at this; simpa using this
      clear HLL HNN HCC HPR hm hfr
      go_wp2_with fail
      go_region_held3 (fun w' => w'.cell? ⟨w.heap.size, 0, none⟩ = some (.int .i64 2) ∧ w'.cell? ⟨w.heap.size, 1, none⟩ = some (.int .i64 f) ∧ w'.cell? ⟨w.heap.size, 2, none⟩ = some (.int .i64 t) ∧ w'.cell? ⟨w.heap.size, 3, none⟩ = some (.int .i64 m) ∧ w'.cell? ⟨w.heap.size, 4, none⟩ = some (.int .i64 fr) ∧ w'.cell? ⟨w.heap.size + 1, 0, none⟩ = some (.slice (some ⟨g, 0, none⟩) n n)) (first | (with_reducible exact q6_set (q6_keep HQ.out HB5.out) hl1 hl1 hl1 hl1 hl1 hl2) | (with_reducible exact q6_keep HQ.out HB5.out) | (with_reducible exact q6_keep HQ.out HBz.out) | (with_reducible exact q6_keep HQ.out (Below.refl _ _).drew)) (first | (go_at_call 28; refine (carr2 f t m fr _).mono ?_; rintro e w4 ⟨rfl, hb4⟩; have HBz : Hid (Below w2.heap.size w2 w4) := undrew hb4) | (go_at_call 27; refine (sendS f t m fr x y g n _).mono ?_; rintro e w5 ⟨g', rfl, ho5, hb5⟩; have HB5 : Hid (Below w2.heap.size w2 w5) := bel_on (Nat.le_refl _) HBz.out hb5; have kz := row1_cells (row_on HZ2.out HB5.out)))
      rename_i HH
      have HO5 : Hid (OwnM w5 w.heap.size (some ⟨g', 0, none⟩) [(x, y)]) := ho5.mono (bel_on (Nat.le_refl _) HW2.out HBz.out).size
      have HW5 : Hid (Below w.heap.size w w5) := bel_on (Nat.le_refl _) HW2.out HB5.out
      have HZ5 : Hid (_ = _) := row_on HZ2.out HB5.out
      clear HH hb4 hb5 ho5 HQ HBz HB5 HX2 HY2 HZ2 HROW2 HW2
      go_wp2
      refine bodyPost_ret (v := .tuple #[.agg #[.slice (some ⟨g', 0, none⟩) 1 1], .int .i64 0]) (by simp [results, Try.results12, go_sem, kz]) rfl ⟨_, _, rfl, ?_, ?_⟩
      · exact HO5.out.put HZ5.out (by decide)
      · exact HW5.out.setCell (by simp; omega) _
end Go.Proofs.Ytacpoandikheeaa
