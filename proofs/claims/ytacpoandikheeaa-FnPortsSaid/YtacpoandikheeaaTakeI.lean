/-
  What is taken: the program's takeFrom.
-/
import Derived.Test.YtacpoandikheeaaSendI
namespace Go.Proofs.Ytacpoandikheeaa
open Go.RowKit Go.PlainAid
set_option linter.unusedVariables false

/-- whether what was sent at s is old at y -/
def ageC (y s fr : Int) : Int := if y ≤ s then 0 else if y - s ≤ fr then 0 else 3
def InI (z : Int) : Prop := -9223372036854775808 ≤ z ∧ z ≤ 9223372036854775807
theorem wrap_u64 (n : Int) : IntKind.u64.wrap n = n % 18446744073709551616 := by
  unfold IntKind.wrap
  simp [IntKind.bits, IntKind.signed]

theorem row_tail {w : World} {g B : Nat} {x : Int × Int} {l : List (Int × Int)} (h : RowR w g (x :: l)) (hB : B ≤ g) : OwnM w B (some ⟨g, 2, none⟩) l := fun h0 => by
  refine ⟨g, 2, _, rfl, hB, h, fun j hj => ?_⟩
  have := regsV_at (x :: l) (j + 1) (by simpa using hj)
  rw [show 2 + j * 2 = (j + 1) * 2 by omega]
  simpa using this

set_option maxRecDepth 100000 in
set_option maxHeartbeats 2000000 in
theorem takeQ (f t m fr x0 s0 y : Int) (g n B : Nat) (l : List (Int × Int)) (hl : l.length = n) (hn : n + 1 ≤ 1048576) (hB : B ≤ g) (w : World) (h : RowR w g ((x0, s0) :: l)) :
    Calls Try.prog 32 #[.iface 73 (PV 1 f t m fr), .agg #[.slice (some ⟨g, 0, none⟩) (n + 1) (n + 1)], .int .i64 y] w fun e w' => ∃ q, e = .returned (.tuple #[.agg #[.slice q n n], .int .i64 x0, .int .i64 0]) ∧ OwnM w' B q l ∧ Below w.heap.size w w' := by
  have HR : Hid (RowR w g ((x0, s0) :: l)) := h
  have HL : Hid (l.length = n) := hl
  have ta := taQ 1 f t m fr
  clear h hl
  by_cases h0 : n = 0
  · subst h0
    obtain rfl : l = [] := List.eq_nil_of_length_eq_zero HL.out
    have c0 := (HR.out.on (al2_b w (.cells #[.slice (some ⟨g, 0, none⟩) 1 1] 30) (.cells #[.slice none 0 0] 30))).cell 0 (by simp)
    go_enter Try.func32, Try.ntmps32
    go_wp2
    go_region
    clear c0
    go_wp2
    refine bodyPost_ret (v := .tuple #[.agg #[.slice (some ⟨g, 0, none⟩) 0 0], .int .i64 x0, .int .i64 0]) (by simp [results, Try.results32, go_sem]) rfl ⟨_, rfl, ?_, ((al3_b w _ _ _).trans ((al1_b _ _).mono (al3_b w _ _ _).size)).drew⟩
    exact OwnM.nil _ _ _
  · have h0' : ¬ n + 1 = 1 := by omega
    have c0 := (HR.out.on (al2_b w (.cells #[.slice (some ⟨g, 0, none⟩) (n + 1) (n + 1)] 30) (.cells #[.slice none 0 0] 30))).cell 0 (by simp)
    go_enter Try.func32, Try.ntmps32
    go_wp2
    go_region
    clear c0
    go_wp2
    refine bodyPost_ret (v := .tuple #[.agg #[.slice (some ⟨g, 2, none⟩) n n], .int .i64 x0, .int .i64 0]) (by simp [results, Try.results32, go_sem]) rfl ⟨_, rfl, ?_, ((al3_b w _ _ _).trans ((al1_b _ _).mono (al3_b w _ _ _).size)).drew⟩
    exact (row_tail HR.out hB).on ((al3_b w _ _ _).trans ((al1_b _ _).mono (al3_b w _ _ _).size)).drew

set_option maxRecDepth 100000 in
set_option maxHeartbeats 2000000 in
theorem age (k f t m fr s y : Int) (C : Int) (hC : ageC y s fr = C) (hs : InI s) (hy : InI y) (hf : 1 ≤ fr ∧ fr ≤ 100) (w : World) :
    Calls Try.prog 43 #[PV k f t m fr, .int .i64 s, .int .i64 y] w fun e w' => e = .returned (.int .i64 C) ∧ w' = w.alloc (.cells #[.int .i64 k, .int .i64 f, .int .i64 t, .int .i64 m, .int .i64 fr] 74) := by
  unfold InI at hs hy
  by_cases h1 : y ≤ s
  · obtain rfl : 0 = C := by rw [← hC]; simp [ageC, h1]
    clear hC
    go_enter Try.func43, Try.ntmps43
    go_wp2
    go_ret
    exact ⟨rfl, rfl⟩
  · have e1 : IntKind.u64.wrap (IntKind.u64.wrap y - IntKind.u64.wrap s) = y - s := by rw [wrap_u64, wrap_u64, wrap_u64]; omega
    have e2 : IntKind.u64.wrap fr = fr := by rw [wrap_u64]; omega
    by_cases h2 : y - s ≤ fr
    · obtain rfl : 0 = C := by rw [← hC]; simp [ageC, h2]
      clear hC
      go_enter Try.func43, Try.ntmps43
      go_wp2
      go_ret
      exact ⟨rfl, rfl⟩
    · obtain rfl : 3 = C := by rw [← hC]; simp [ageC, h1, h2]
      clear hC
      go_enter Try.func43, Try.ntmps43
      go_wp2
      go_ret
      exact ⟨rfl, rfl⟩
theorem cell_put {W : World} {p : Addr} {r i : Nat} {v x : Value} (h : W.cell? p = some x) (hne : p.block ≠ r) : (W.setCell ⟨r, i, none⟩ v).cell? p = some x := by
  rw [← h]
  unfold World.cell?
  rw [Below.heap_setCell _ _ _ _ hne]
theorem q8_keep {W0 W' : World} {p0 p1 p2 p3 p4 p5 p6 p7 : Addr} {v0 v1 v2 v3 v4 v5 v6 v7 : Value} (h : W0.cell? p0 = some v0 ∧ W0.cell? p1 = some v1 ∧ W0.cell? p2 = some v2 ∧ W0.cell? p3 = some v3 ∧ W0.cell? p4 = some v4 ∧ W0.cell? p5 = some v5 ∧ W0.cell? p6 = some v6 ∧ W0.cell? p7 = some v7) (hB : Below W0.heap.size W0 W') :
    W'.cell? p0 = some v0 ∧ W'.cell? p1 = some v1 ∧ W'.cell? p2 = some v2 ∧ W'.cell? p3 = some v3 ∧ W'.cell? p4 = some v4 ∧ W'.cell? p5 = some v5 ∧ W'.cell? p6 = some v6 ∧ W'.cell? p7 = some v7 :=
  ⟨cell_on h.1 hB, cell_on h.2.1 hB, cell_on h.2.2.1 hB, cell_on h.2.2.2.1 hB, cell_on h.2.2.2.2.1 hB, cell_on h.2.2.2.2.2.1 hB, cell_on h.2.2.2.2.2.2.1 hB, cell_on h.2.2.2.2.2.2.2 hB⟩
theorem q8_set {W0 : World} {p0 p1 p2 p3 p4 p5 p6 p7 : Addr} {v0 v1 v2 v3 v4 v5 v6 v7 : Value} {r i : Nat} {v : Value} (h : W0.cell? p0 = some v0 ∧ W0.cell? p1 = some v1 ∧ W0.cell? p2 = some v2 ∧ W0.cell? p3 = some v3 ∧ W0.cell? p4 = some v4 ∧ W0.cell? p5 = some v5 ∧ W0.cell? p6 = some v6 ∧ W0.cell? p7 = some v7) (h0 : p0.block ≠ r) (h1 : p1.block ≠ r) (h2 : p2.block ≠ r) (h3 : p3.block ≠ r) (h4 : p4.block ≠ r) (h5 : p5.block ≠ r) (h6 : p6.block ≠ r) (h7 : p7.block ≠ r) :
    (W0.setCell ⟨r, i, none⟩ v).cell? p0 = some v0 ∧ (W0.setCell ⟨r, i, none⟩ v).cell? p1 = some v1 ∧ (W0.setCell ⟨r, i, none⟩ v).cell? p2 = some v2 ∧ (W0.setCell ⟨r, i, none⟩ v).cell? p3 = some v3 ∧ (W0.setCell ⟨r, i, none⟩ v).cell? p4 = some v4 ∧ (W0.setCell ⟨r, i, none⟩ v).cell? p5 = some v5 ∧ (W0.setCell ⟨r, i, none⟩ v).cell? p6 = some v6 ∧ (W0.setCell ⟨r, i, none⟩ v).cell? p7 = some v7 :=
  ⟨cell_put h.1 h0, cell_put h.2.1 h1, cell_put h.2.2.1 h2, cell_put h.2.2.2.1 h3, cell_put h.2.2.2.2.1 h4, cell_put h.2.2.2.2.2.1 h5, cell_put h.2.2.2.2.2.2.1 h6, cell_put h.2.2.2.2.2.2.2 h7⟩

theorem al4_4 (w : World) (a b c d : Obj) : ((((w.alloc a).alloc b).alloc c).alloc d).heap[w.heap.size + 1 + 1 + 1]? = some d := by
  have := heap_new (((w.alloc a).alloc b).alloc c) d
  simpa using this
set_option maxRecDepth 100000 in
set_option maxHeartbeats 4000000 in
theorem takeS (f t m fr x0 s0 y C : Int) (g n : Nat) (l : List (Int × Int)) (hl : l.length = n) (hn : n ≤ 1048576) (hp : 0 < n) (hC : ageC y s0 fr = C) (hs : InI s0) (hy : InI y) (hf : 1 ≤ fr ∧ fr ≤ 100) (hh : l[0]? = some (x0, s0)) (w : World) (h : RowR w g l) :
    Calls Try.prog 32 #[.iface 74 (PV 2 f t m fr), .agg #[.slice (some ⟨g, 0, none⟩) n n], .int .i64 y] w fun e w' => e = .returned (.tuple #[.agg #[.slice (some ⟨g, 0, none⟩) n n], .int .i64 x0, .int .i64 C]) ∧ Below w.heap.size w w' := by
  have ta := taSQ 2 f t m fr
  have tb := taS 2 f t m fr
  have c0 := (h.on (al2_b w (.cells #[.slice (some ⟨g, 0, none⟩) n n] 30) (.cells #[.slice none 0 0] 30))).cell 0 (by omega)
  have e0 : l[0]'(by omega) = (x0, s0) := by
    rw [List.getElem?_eq_getElem (by omega)] at hh
    exact Option.some.inj hh
  rw [e0] at c0
  have HA : Hid _ := age 2 f t m fr s0 y C hC hs hy hf
  have HY0 : Hid (((((w.alloc (.cells #[.slice (some ⟨g, 0, none⟩) n n] 30)).alloc (.cells #[.slice none 0 0] 30)).alloc (.cells #[.int .i64 x0, .int .i64 s0] 52)).alloc (.cells #[.int .i64 2, .int .i64 f, .int .i64 t, .int .i64 m, .int .i64 fr] 74)).heap[w.heap.size]? = some (.cells #[.slice (some ⟨g, 0, none⟩) n n] 30)) := row_on (al3_1 w _ _ _) (al1_b _ _)
  have HZ0 : Hid (((((w.alloc (.cells #[.slice (some ⟨g, 0, none⟩) n n] 30)).alloc (.cells #[.slice none 0 0] 30)).alloc (.cells #[.int .i64 x0, .int .i64 s0] 52)).alloc (.cells #[.int .i64 2, .int .i64 f, .int .i64 t, .int .i64 m, .int .i64 fr] 74)).heap[w.heap.size + 1]? = some (.cells #[.slice none 0 0] 30)) := row_on (al3_2 w _ _ _) (al1_b _ _)
  have HM0 : Hid (((((w.alloc (.cells #[.slice (some ⟨g, 0, none⟩) n n] 30)).alloc (.cells #[.slice none 0 0] 30)).alloc (.cells #[.int .i64 x0, .int .i64 s0] 52)).alloc (.cells #[.int .i64 2, .int .i64 f, .int .i64 t, .int .i64 m, .int .i64 fr] 74)).heap[w.heap.size + 1 + 1]? = some (.cells #[.int .i64 x0, .int .i64 s0] 52)) := row_on (al3_3 w _ _ _) (al1_b _ _)
  have HX0 : Hid (((((w.alloc (.cells #[.slice (some ⟨g, 0, none⟩) n n] 30)).alloc (.cells #[.slice none 0 0] 30)).alloc (.cells #[.int .i64 x0, .int .i64 s0] 52)).alloc (.cells #[.int .i64 2, .int .i64 f, .int .i64 t, .int .i64 m, .int .i64 fr] 74)).heap[w.heap.size + 1 + 1 + 1]? = some (.cells #[.int .i64 2, .int .i64 f, .int .i64 t, .int .i64 m, .int .i64 fr] 74)) := al4_4 w _ _ _ _
  have HW0 : Hid (Below w.heap.size w ((((w.alloc (.cells #[.slice (some ⟨g, 0, none⟩) n n] 30)).alloc (.cells #[.slice none 0 0] 30)).alloc (.cells #[.int .i64 x0, .int .i64 s0] 52)).alloc (.cells #[.int .i64 2, .int .i64 f, .int .i64 t, .int .i64 m, .int .i64 fr] 74))) := (al3_b w _ _ _).trans ((al1_b _ _).mono (al3_b w _ _ _).size)
  clear h hl hh e0 hC hs hy hf
  have hl1 : w.heap.size ≠ w.heap.size + 1 := by omega
  have hl2 : w.heap.size + 1 + 1 ≠ w.heap.size + 1 := by omega
  have hl3 : w.heap.size + 1 + 1 + 1 ≠ w.heap.size + 1 := by omega
  go_enter Try.func32, Try.ntmps32
  go_wp2
  clear c0
  generalize hW2 : ((((w.alloc (.cells #[.slice (some ⟨g, 0, none⟩) n n] 30)).alloc (.cells #[.slice none 0 0] 30)).alloc (.cells #[.int .i64 x0, .int .i64 s0] 52)).alloc (.cells #[.int .i64 2, .int .i64 f, .int .i64 t, .int .i64 m, .int .i64 fr] 74)) = w2 at *
  clear hW2
  have HQ : Hid (w2.cell? ⟨w.heap.size, 0, none⟩ = some (.slice (some ⟨g, 0, none⟩) n n) ∧ w2.cell? ⟨w.heap.size + 1 + 1, 0, none⟩ = some (.int .i64 x0) ∧ w2.cell? ⟨w.heap.size + 1 + 1, 1, none⟩ = some (.int .i64 s0) ∧ w2.cell? ⟨w.heap.size + 1 + 1 + 1, 0, none⟩ = some (.int .i64 2) ∧ w2.cell? ⟨w.heap.size + 1 + 1 + 1, 1, none⟩ = some (.int .i64 f) ∧ w2.cell? ⟨w.heap.size + 1 + 1 + 1, 2, none⟩ = some (.int .i64 t) ∧ w2.cell? ⟨w.heap.size + 1 + 1 + 1, 3, none⟩ = some (.int .i64 m) ∧ w2.cell? ⟨w.heap.size + 1 + 1 + 1, 4, none⟩ = some (.int .i64 fr)) := ⟨(row1_cells HY0.out).1, (row2_cells HM0.out).1, (row2_cells HM0.out).2.1, (box5_cells HX0.out).1.1, (box5_cells HX0.out).1.2.1, (box5_cells HX0.out).1.2.2.1, (box5_cells HX0.out).1.2.2.2.1, (box5_cells HX0.out).1.2.2.2.2⟩
  go_region_held3 (fun w' => w'.cell? ⟨w.heap.size, 0, none⟩ = some (.slice (some ⟨g, 0, none⟩) n n) ∧ w'.cell? ⟨w.heap.size + 1 + 1, 0, none⟩ = some (.int .i64 x0) ∧ w'.cell? ⟨w.heap.size + 1 + 1, 1, none⟩ = some (.int .i64 s0) ∧ w'.cell? ⟨w.heap.size + 1 + 1 + 1, 0, none⟩ = some (.int .i64 2) ∧ w'.cell? ⟨w.heap.size + 1 + 1 + 1, 1, none⟩ = some (.int .i64 f) ∧ w'.cell? ⟨w.heap.size + 1 + 1 + 1, 2, none⟩ = some (.int .i64 t) ∧ w'.cell? ⟨w.heap.size + 1 + 1 + 1, 3, none⟩ = some (.int .i64 m) ∧ w'.cell? ⟨w.heap.size + 1 + 1 + 1, 4, none⟩ = some (.int .i64 fr)) (first | (with_reducible exact q8_set (q8_keep HQ.out HB5.out) hl1 hl2 hl2 hl3 hl3 hl3 hl3 hl3) | (with_reducible exact q8_keep HQ.out HB5.out) | (with_reducible exact q8_keep HQ.out (Below.refl _ _).drew)) (first | (go_at_call 43; refine (HA.out _).mono ?_; rintro e w5 ⟨rfl, hw5⟩; have HB5 : Hid (Below w2.heap.size w2 w5) := (hid (by rw [hw5]; exact undrew (al1_b _ _))); clear hw5; have kz := row1_cells (row_on HZ0.out HB5.out)))
  rename_i HH
  have HW5 : Hid (Below w.heap.size w w5) := bel_on (Nat.le_refl _) HW0.out HB5.out
  clear HH HQ HB5 HA HY0 HZ0 HM0 HX0 HW0
  go_wp2
  refine bodyPost_ret (v := .tuple #[.agg #[.slice (some ⟨g, 0, none⟩) n n], .int .i64 x0, .int .i64 C]) (by simp [results, Try.results32, go_sem, kz]) rfl ⟨rfl, HW5.out.setCell (by simp) _⟩
end Go.Proofs.Ytacpoandikheeaa
