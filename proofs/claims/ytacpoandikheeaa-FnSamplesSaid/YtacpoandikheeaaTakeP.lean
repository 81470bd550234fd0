/-
  TakePort of the program: what it answers, and that its line is its own.
-/
import Derived.Test.YtacpoandikheeaaTakeI
import Derived.Test.YtacpoandikheeaaSendP
namespace Go.Proofs.Ytacpoandikheeaa
open Go.RowKit Go.PlainAid
set_option linter.unusedVariables false

/-- the line behind a message that is taken -/
def takeL (b : Bool) (k : Int) (l : List (Int × Int)) : List (Int × Int) := if b = true ∧ k = 1 then l.tail else l
/-- the number that is told -/
def takeN (b : Bool) (l : List (Int × Int)) : Int := if b = true then (l.headD (0, 0)).1 else 0
/-- what is told of it -/
def takeC (b : Bool) (k fr y : Int) (l : List (Int × Int)) : Int := if b = true then (if l = [] then 2 else if k = 1 then 0 else ageC y (l.headD (0, 0)).2 fr) else 2

set_option maxRecDepth 100000 in
set_option maxHeartbeats 4000000 in
theorem takeI (k f t m fr y : Int) (a : Option Addr) (l : List (Int × Int)) (n cap : Nat) (b : Bool) (L : List (Int × Int)) (N : Nat) (U C : Int) (hl : l.length = n) (hn : n ≤ 1048576) (hb : b = true ↔ PortR k f t m fr) (hy : InI y) (hs : ∀ p ∈ l, InI p.2) (hL : takeL b k l = L) (hN : L.length = N) (hU : takeN b l = U) (hC : takeC b k fr y l = C) (w : World) (hr : RdR w a l) :
    Calls Try.prog 17 #[PV k f t m fr, .agg #[.slice a n cap], .int .i64 y] w fun e w' => ∃ q c, e = .returned (.tuple #[.agg #[.slice q N c], .int .i64 U, .int .i64 C]) ∧ OwnM w' w.heap.size q L ∧ Below w.heap.size w w' := by
  have HX0 : Hid ((((w.alloc (.cells #[.int .i64 k, .int .i64 f, .int .i64 t, .int .i64 m, .int .i64 fr] 33)).alloc (.cells #[.slice a n cap] 30)).alloc (.cells #[.slice none 0 0] 30)).heap[w.heap.size]? = some (.cells #[.int .i64 k, .int .i64 f, .int .i64 t, .int .i64 m, .int .i64 fr] 33)) := al3_1 w _ _ _
  have HY0 : Hid ((((w.alloc (.cells #[.int .i64 k, .int .i64 f, .int .i64 t, .int .i64 m, .int .i64 fr] 33)).alloc (.cells #[.slice a n cap] 30)).alloc (.cells #[.slice none 0 0] 30)).heap[w.heap.size + 1]? = some (.cells #[.slice a n cap] 30)) := al3_2 w _ _ _
  have HZ0 : Hid ((((w.alloc (.cells #[.int .i64 k, .int .i64 f, .int .i64 t, .int .i64 m, .int .i64 fr] 33)).alloc (.cells #[.slice a n cap] 30)).alloc (.cells #[.slice none 0 0] 30)).heap[w.heap.size + 1 + 1]? = some (.cells #[.slice none 0 0] 30)) := al3_3 w _ _ _
  have HW0 : Hid (Below w.heap.size w (((w.alloc (.cells #[.int .i64 k, .int .i64 f, .int .i64 t, .int .i64 m, .int .i64 fr] 33)).alloc (.cells #[.slice a n cap] 30)).alloc (.cells #[.slice none 0 0] 30))) := al3_b w _ _ _
  have HR : Hid (RdR w a l) := hr
  have HL : Hid (l.length = n) := hl
  have HPB : Hid (b = true ↔ PortR k f t m fr) := hb
  have HLL : Hid (takeL b k l = L) := hL
  have HNN : Hid (L.length = N) := hN
  have HUU : Hid (takeN b l = U) := hU
  have HCC : Hid (takeC b k fr y l = C) := hC
  have HYI : Hid (InI y) := hy
  have HSI : Hid (∀ p ∈ l, InI p.2) := hs
  have hl1 : w.heap.size < w.heap.size + 1 + 1 := by omega
  have hl2 : w.heap.size + 1 < w.heap.size + 1 + 1 := by omega
  clear hr hl hb hL hN hC hU hy hs
  go_enter Try.func17, Try.ntmps17
  go_wp2_with fail
  refine (copyL a l n cap HL.out hn _ (HR.out.keep HW0.out (Nat.le_refl _))).mono ?_
  rintro e w1 ⟨g, rfl, hg, hrow, hb1⟩
  have HX1 : Hid (_ = _) := set_other (k := w.heap.size + 1) (i := 0) (x := .slice (some ⟨g, 0, none⟩) n n) (row_on HX0.out hb1) (by omega)
  have HY1 : Hid (_ = _) := set_one (x' := .slice (some ⟨g, 0, none⟩) n n) (row_on HY0.out hb1)
  have HZ1 : Hid (_ = _) := set_other (k := w.heap.size + 1) (i := 0) (x := .slice (some ⟨g, 0, none⟩) n n) (row_on HZ0.out hb1) (by omega)
  have HW1 : Hid (Below w.heap.size w (w1.setCell ⟨w.heap.size + 1, 0, none⟩ (.slice (some ⟨g, 0, none⟩) n n))) := (bel_on (Nat.le_refl _) HW0.out hb1).setCell (by simp) _
  have HG : Hid (w.heap.size + 1 + 1 < g) := by simp at hg; show w.heap.size + 1 + 1 < g; omega
  have HROW1 : Hid (RowR (w1.setCell ⟨w.heap.size + 1, 0, none⟩ (.slice (some ⟨g, 0, none⟩) n n)) g l) := set_other hrow (by have := HG.out; omega)
  have ky := row1_cells (row_on HY0.out hb1)
  clear hg hrow hb1 HX0 HY0 HZ0 HW0 HR
  have kx := box5_cells HX1.out
  go_wp2_with fail
  clear ky kx
  refine (portokI k f t m fr b HPB.out _).mono ?_
  rintro e w2 ⟨rfl, hb2⟩
  have HX2 : Hid (_ = _) := row_on HX1.out hb2
  have HY2 : Hid (_ = _) := row_on HY1.out hb2
  have HZ2 : Hid (_ = _) := row_on HZ1.out hb2
  have HW2 : Hid (Below w.heap.size w w2) := bel_on (Nat.le_refl _) HW1.out hb2
  have HROW2 : Hid (RowR w2 g l) := HROW1.out.on hb2
  clear hb2 HX1 HY1 HZ1 HW1 HROW1
  cases b with
  | false =>
    obtain rfl : l = L := by have := HLL.out; unfold takeL at this; simpa using this
    obtain rfl : n = N := by rw [← HL.out, HNN.out]
    obtain rfl : 0 = U := by have := HUU.out; unfold takeN at this; simpa using this
    obtain rfl : 2 = C := by have := HCC.out; unfold takeC at this; simpa using this
    have ky := row1_cells HY2.out
    have kz := row1_cells HZ2.out
    clear HLL HNN HUU HCC HPB HX2
    go_wp2
    refine bodyPost_ret (v := .tuple #[.agg #[.slice (some ⟨g, 0, none⟩) n n], .int .i64 0, .int .i64 2]) (by simp [results, Try.results17, go_sem, kz]) rfl ⟨_, _, rfl, ?_, ?_⟩
    · exact (HROW2.out.own (by have := HG.out; omega)).put HZ2.out (by decide)
    · exact HW2.out.setCell (by simp; omega) _
  | true =>
    by_cases h0 : n = 0
    · subst h0
      obtain rfl : l = [] := List.eq_nil_of_length_eq_zero HL.out
      obtain rfl : [] = L := by have := HLL.out; unfold takeL at this; simpa using this
      obtain rfl : 0 = N := HNN.out
      obtain rfl : 0 = U := by have := HUU.out; unfold takeN at this; simpa using this
      obtain rfl : 2 = C := by have := HCC.out; unfold takeC at this; simpa using this
      have ky := row1_cells HY2.out
      have kz := row1_cells HZ2.out
      clear HLL HNN HUU HCC HPB HX2
      go_wp2
      refine bodyPost_ret (v := .tuple #[.agg #[.slice (some ⟨g, 0, none⟩) 0 0], .int .i64 0, .int .i64 2]) (by simp [results, Try.results17, go_sem, kz]) rfl ⟨_, _, rfl, ?_, ?_⟩
      · exact (HROW2.out.own (by have := HG.out; omega)).put HZ2.out (by decide)
      · exact HW2.out.setCell (by simp; omega) _
    have HPR := HPB.out.1 rfl
    clear HPB
    rcases HPR.2.2.2 with ⟨hk, hm, hfr⟩ | ⟨hk, hm, hfr⟩
    · subst hk
      obtain ⟨⟨x0, s0⟩, l', rfl⟩ : ∃ p l', l = p :: l' := by
        cases l with
        | nil => exact absurd HL.out.symm h0
        | cons p l' => exact ⟨p, l', rfl⟩
      obtain ⟨n', rfl⟩ : ∃ n', n = n' + 1 := ⟨n - 1, by omega⟩
      have HL' : Hid (l'.length = n') := by have := HL.out; simp at this; exact this
      obtain rfl : l' = L := by have := HLL.out; unfold takeL at this; simpa using this
      obtain rfl : n' = N := by rw [← HL'.out, HNN.out]
      obtain rfl : x0 = U := by have := HUU.out; unfold takeN at this; simpa using this
      obtain rfl : 0 = C := by have := HCC.out; unfold takeC at this; simpa using this
      have HQ : Hid (w2.cell? ⟨w.heap.size, 0, none⟩ = some (.int .i64 1) ∧ w2.cell? ⟨w.heap.size, 1, none⟩ = some (.int .i64 f) ∧ w2.cell? ⟨w.heap.size, 2, none⟩ = some (.int .i64 t) ∧ w2.cell? ⟨w.heap.size, 3, none⟩ = some (.int .i64 m) ∧ w2.cell? ⟨w.heap.size, 4, none⟩ = some (.int .i64 fr) ∧ w2.cell? ⟨w.heap.size + 1, 0, none⟩ = some (.slice (some ⟨g, 0, none⟩) (n' + 1) (n' + 1))) := ⟨(box5_cells HX2.out).1.1, (box5_cells HX2.out).1.2.1, (box5_cells HX2.out).1.2.2.1, (box5_cells HX2.out).1.2.2.2.1, (box5_cells HX2.out).1.2.2.2.2, (row1_cells HY2.out).1⟩
      have HGL : w.heap.size ≤ g := by have := HG.out; omega
      have ky := row1_cells HY2.out
      clear HLL HNN HUU HCC HPR hm hfr
      go_wp2_with fail
      clear ky
      go_region_held3 (fun w' => w'.cell? ⟨w.heap.size, 0, none⟩ = some (.int .i64 1) ∧ w'.cell? ⟨w.heap.size, 1, none⟩ = some (.int .i64 f) ∧ w'.cell? ⟨w.heap.size, 2, none⟩ = some (.int .i64 t) ∧ w'.cell? ⟨w.heap.size, 3, none⟩ = some (.int .i64 m) ∧ w'.cell? ⟨w.heap.size, 4, none⟩ = some (.int .i64 fr) ∧ w'.cell? ⟨w.heap.size + 1, 0, none⟩ = some (.slice (some ⟨g, 0, none⟩) (n' + 1) (n' + 1))) (first | (with_reducible exact q6_set (q6_keep HQ.out HB5.out) hl1 hl1 hl1 hl1 hl1 hl2) | (with_reducible exact q6_keep HQ.out HB5.out) | (with_reducible exact q6_keep HQ.out HBz.out) | (with_reducible exact q6_keep HQ.out (Below.refl _ _).drew)) (first | (go_at_call 28; refine (carr1 f t m fr _).mono ?_; rintro e w4 ⟨rfl, hb4⟩; have HBz : Hid (Below w2.heap.size w2 w4) := undrew hb4) | (go_at_call 32; refine (takeQ f t m fr x0 s0 y g n' w.heap.size l' HL'.out hn HGL _ (HROW2.out.on HBz.out)).mono ?_; rintro e w5 ⟨q', rfl, ho5, hb5⟩; have HB5 : Hid (Below w2.heap.size w2 w5) := bel_on (Nat.le_refl _) HBz.out hb5; have kz := row1_cells (row_on HZ2.out HB5.out)))
      rename_i HH
      have HO5 : Hid (OwnM w5 w.heap.size q' l') := ho5
      have HW5 : Hid (Below w.heap.size w w5) := bel_on (Nat.le_refl _) HW2.out HB5.out
      have HZ5 : Hid (_ = _) := row_on HZ2.out HB5.out
      clear HH hb4 hb5 ho5 HQ HBz HB5 HX2 HY2 HZ2 HROW2 HW2
      go_wp2
      refine bodyPost_ret (v := .tuple #[.agg #[.slice q' n' n'], .int .i64 x0, .int .i64 0]) (by simp [results, Try.results17, go_sem, kz]) rfl ⟨_, _, rfl, ?_, ?_⟩
      · exact HO5.out.put HZ5.out (by decide)
      · exact HW5.out.setCell (by simp; omega) _
    · subst hk
      obtain ⟨⟨x0, s0⟩, l', rfl⟩ : ∃ p l', l = p :: l' := by
        cases l with
        | nil => exact absurd HL.out.symm h0
        | cons p l' => exact ⟨p, l', rfl⟩
      have hp : 0 < n := by omega
      obtain rfl : (x0, s0) :: l' = L := by have := HLL.out; unfold takeL at this; simpa using this
      obtain rfl : n = N := by rw [← HL.out, HNN.out]
      obtain rfl : x0 = U := by have := HUU.out; unfold takeN at this; simpa using this
      have HC' : Hid (ageC y s0 fr = C) := by have := HCC.out; unfold takeC at this; simpa [Hid] using this
      have HS0 : Hid (InI s0) := HSI.out (x0, s0) (by simp)
      have HQ : Hid (w2.cell? ⟨w.heap.size, 0, none⟩ = some (.int .i64 2) ∧ w2.cell? ⟨w.heap.size, 1, none⟩ = some (.int .i64 f) ∧ w2.cell? ⟨w.heap.size, 2, none⟩ = some (.int .i64 t) ∧ w2.cell? ⟨w.heap.size, 3, none⟩ = some (.int .i64 m) ∧ w2.cell? ⟨w.heap.size, 4, none⟩ = some (.int .i64 fr) ∧ w2.cell? ⟨w.heap.size + 1, 0, none⟩ = some (.slice (some ⟨g, 0, none⟩) n n)) := ⟨(box5_cells HX2.out).1.1, (box5_cells HX2.out).1.2.1, (box5_cells HX2.out).1.2.2.1, (box5_cells HX2.out).1.2.2.2.1, (box5_cells HX2.out).1.2.2.2.2, (row1_cells HY2.out).1⟩
      have HFR : Hid (1 ≤ fr ∧ fr ≤ 100) := hfr
      have ky := row1_cells HY2.out
      clear HLL HNN HUU HCC HPR hm hfr
      go_wp2_with fail
      clear ky
      go_region_held3 (fun w' => w'.cell? ⟨w.heap.size, 0, none⟩ = some (.int .i64 2) ∧ w'.cell? ⟨w.heap.size, 1, none⟩ = some (.int .i64 f) ∧ w'.cell? ⟨w.heap.size, 2, none⟩ = some (.int .i64 t) ∧ w'.cell? ⟨w.heap.size, 3, none⟩ = some (.int .i64 m) ∧ w'.cell? ⟨w.heap.size, 4, none⟩ = some (.int .i64 fr) ∧ w'.cell? ⟨w.heap.size + 1, 0, none⟩ = some (.slice (some ⟨g, 0, none⟩) n n)) (first | (with_reducible exact q6_set (q6_keep HQ.out HB5.out) hl1 hl1 hl1 hl1 hl1 hl2) | (with_reducible exact q6_keep HQ.out HB5.out) | (with_reducible exact q6_keep HQ.out HBz.out) | (with_reducible exact q6_keep HQ.out (Below.refl _ _).drew)) (first | (go_at_call 28; refine (carr2 f t m fr _).mono ?_; rintro e w4 ⟨rfl, hb4⟩; have HBz : Hid (Below w2.heap.size w2 w4) := undrew hb4) | (go_at_call 32; refine (takeS f t m fr x0 s0 y C g n ((x0, s0) :: l') HL.out hn hp HC'.out HS0.out HYI.out HFR.out rfl _ (HROW2.out.on HBz.out)).mono ?_; rintro e w5 ⟨rfl, hb5⟩; have HB5 : Hid (Below w2.heap.size w2 w5) := bel_on (Nat.le_refl _) HBz.out hb5; have kz := row1_cells (row_on HZ2.out HB5.out)))
      rename_i HH
      have HO5 : Hid (OwnM w5 w.heap.size (some ⟨g, 0, none⟩) ((x0, s0) :: l')) := (HROW2.out.on HB5.out).own (by have := HG.out; omega)
      have HW5 : Hid (Below w.heap.size w w5) := bel_on (Nat.le_refl _) HW2.out HB5.out
      have HZ5 : Hid (_ = _) := row_on HZ2.out HB5.out
      clear HH hb4 hb5 HQ HBz HB5 HX2 HY2 HZ2 HROW2 HW2
      go_wp2
      refine bodyPost_ret (v := .tuple #[.agg #[.slice (some ⟨g, 0, none⟩) n n], .int .i64 x0, .int .i64 C]) (by simp [results, Try.results17, go_sem, kz]) rfl ⟨_, _, rfl, ?_, ?_⟩
      · exact HO5.out.put HZ5.out (by decide)
      · exact HW5.out.setCell (by simp; omega) _
end Go.Proofs.Ytacpoandikheeaa
