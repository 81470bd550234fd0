/-
  A device made out of one that came in; devices held against one another.
-/
import Derived.Test.YtckeffccoghgeaaDoorDvT0
import Derived.Test.YtckeffccoghgeaaDoorOpenPms
import Derived.Test.YtckeffccoghgeaaDoorOpenMn
import Derived.Test.YtckeffccoghgeaaDoorTilM
import Derived.Test.YtckeffccoghgeaaDoorGB
namespace Go.Proofs.YtckeffccoghgeaaDoor
open Go.RowKit Go.PlainAid
set_option linter.unusedVariables false
set_option linter.unusedSimpArgs false

theorem toPmpL (p : Pm) (w : World) : Calls Tryd.prog 15 #[.agg #[.int .i64 p.s, .int .i64 p.n, .int .i64 p.d, .int .i64 p.r, .int .i64 p.l, .int .i64 p.b, .int .i64 p.g, .int .i64 p.k]] w fun e w' => e = .returned (.agg #[.int .i64 p.s, .int .i64 p.n, .int .i64 p.d, .int .i64 p.r, .int .i64 p.l, .int .i64 p.b, .int .i64 p.g, .int .i64 p.k]) ∧ Below w.heap.size w w' := toPmp p w
theorem toMnuL (m : Mn) (w : World) : Calls Tryd.prog 17 #[.agg #[.int .i64 m.a, .bool m.b, .int .i64 m.n, .int .i64 m.d, .string ⟨m.s.toArray⟩]] w fun e w' => e = .returned (.agg #[.int .i64 m.a, .bool m.b, .int .i64 m.n, .int .i64 m.d, .string ⟨m.s.toArray⟩]) ∧ Below w.heap.size w w' := toMnu m w
set_option maxRecDepth 100000 in
set_option maxHeartbeats 4000000 in
theorem toDv (p : Pm) (a : Option Addr) (n cap : Nat) (l : List Int) (al : Int) (m : Mn) (ta : Option Addr) (tn tc : Nat) (t : List Tk3) (rf : Int) (hl : l.length = n) (hn : n ≤ 1048576) (ht : t.length = tn) (htn : tn ≤ 1048576) (w : World) (hr : G.Rd w a l) (hrt : RdY w ta t) :
    Calls Tryd.prog 6 #[.agg #[.int .i64 p.s, .int .i64 p.n, .int .i64 p.d, .int .i64 p.r, .int .i64 p.l, .int .i64 p.b, .int .i64 p.g, .int .i64 p.k, .slice a n cap, .int .i64 al, .int .i64 m.a, .bool m.b, .int .i64 m.n, .int .i64 m.d, .string ⟨m.s.toArray⟩, .slice ta tn tc, .int .i64 rf]] w fun e w' => ∃ g gt, e = .returned (.agg #[.int .i64 p.s, .int .i64 p.n, .int .i64 p.d, .int .i64 p.r, .int .i64 p.l, .int .i64 p.b, .int .i64 p.g, .int .i64 p.k, .slice (some ⟨g, 0, none⟩) n n, .int .i64 al, .int .i64 m.a, .bool m.b, .int .i64 m.n, .int .i64 m.d, .string ⟨m.s.toArray⟩, .slice (some ⟨gt, 0, none⟩) tn tn, .int .i64 rf]) ∧ w.heap.size ≤ g ∧ w.heap.size ≤ gt ∧ G.RowAt w' g l ∧ RowY w' gt t ∧ Below w.heap.size w w' := by
  have HL : Hid (l.length = n) := hl
  have HT : Hid (t.length = tn) := ht
  have HRL : Hid (G.Rd w a l) := hr
  have HRT : Hid (RdY w ta t) := hrt
  obtain ⟨W3, hW3⟩ : ∃ W3, (((w.alloc (.cells #[.int .i64 p.s, .int .i64 p.n, .int .i64 p.d, .int .i64 p.r, .int .i64 p.l, .int .i64 p.b, .int .i64 p.g, .int .i64 p.k, .slice a n cap, .int .i64 al, .int .i64 m.a, .bool m.b, .int .i64 m.n, .int .i64 m.d, .string ⟨m.s.toArray⟩, .slice ta tn tc, .int .i64 rf] 33)).alloc (.cells #[.int .i64 0, .int .i64 0, .int .i64 0, .int .i64 0, .int .i64 0, .int .i64 0, .int .i64 0, .int .i64 0, .slice none 0 0, .int .i64 0, .int .i64 0, .bool false, .int .i64 0, .int .i64 0, .string ⟨#[]⟩, .slice none 0 0, .int .i64 0] 43)).alloc (.cells #[.int .i64 0, .int .i64 0, .int .i64 0, .int .i64 0, .int .i64 0, .int .i64 0, .int .i64 0, .int .i64 0, .slice none 0 0, .int .i64 0, .int .i64 0, .bool false, .int .i64 0, .int .i64 0, .string ⟨#[]⟩, .slice none 0 0, .int .i64 0] 43)) = W3 := ⟨_, rfl⟩
  have HB0 : Hid (Below w.heap.size w W3) := by rw [← hW3]; exact bel_on (Nat.le_refl _) (bel_on (Nat.le_refl _) (alM _ _) (alM _ _)) (alM _ _)
  have HX0 : Hid (W3.heap[w.heap.size]? = some (.cells #[.int .i64 p.s, .int .i64 p.n, .int .i64 p.d, .int .i64 p.r, .int .i64 p.l, .int .i64 p.b, .int .i64 p.g, .int .i64 p.k, .slice a n cap, .int .i64 al, .int .i64 m.a, .bool m.b, .int .i64 m.n, .int .i64 m.d, .string ⟨m.s.toArray⟩, .slice ta tn tc, .int .i64 rf] 33)) := by rw [← hW3]; exact row_on (row_on (heap_new w _) (alM _ _)) (alM _ _)
  have HZ0 : Hid (W3.heap[w.heap.size + 1]? = some (.cells #[.int .i64 0, .int .i64 0, .int .i64 0, .int .i64 0, .int .i64 0, .int .i64 0, .int .i64 0, .int .i64 0, .slice none 0 0, .int .i64 0, .int .i64 0, .bool false, .int .i64 0, .int .i64 0, .string ⟨#[]⟩, .slice none 0 0, .int .i64 0] 43)) := by
    rw [← hW3]
    have h := heap_new (w.alloc (.cells #[.int .i64 p.s, .int .i64 p.n, .int .i64 p.d, .int .i64 p.r, .int .i64 p.l, .int .i64 p.b, .int .i64 p.g, .int .i64 p.k, .slice a n cap, .int .i64 al, .int .i64 m.a, .bool m.b, .int .i64 m.n, .int .i64 m.d, .string ⟨m.s.toArray⟩, .slice ta tn tc, .int .i64 rf] 33)) (.cells #[.int .i64 0, .int .i64 0, .int .i64 0, .int .i64 0, .int .i64 0, .int .i64 0, .int .i64 0, .int .i64 0, .slice none 0 0, .int .i64 0, .int .i64 0, .bool false, .int .i64 0, .int .i64 0, .string ⟨#[]⟩, .slice none 0 0, .int .i64 0] 43)
    rw [show (w.alloc (.cells #[.int .i64 p.s, .int .i64 p.n, .int .i64 p.d, .int .i64 p.r, .int .i64 p.l, .int .i64 p.b, .int .i64 p.g, .int .i64 p.k, .slice a n cap, .int .i64 al, .int .i64 m.a, .bool m.b, .int .i64 m.n, .int .i64 m.d, .string ⟨m.s.toArray⟩, .slice ta tn tc, .int .i64 rf] 33)).heap.size = w.heap.size + 1 by simp] at h
    exact row_on h (alM _ _)
  have HV0 : Hid (W3.heap[w.heap.size + 1 + 1]? = some (.cells #[.int .i64 0, .int .i64 0, .int .i64 0, .int .i64 0, .int .i64 0, .int .i64 0, .int .i64 0, .int .i64 0, .slice none 0 0, .int .i64 0, .int .i64 0, .bool false, .int .i64 0, .int .i64 0, .string ⟨#[]⟩, .slice none 0 0, .int .i64 0] 43)) := by
    rw [← hW3]
    have h := heap_new ((w.alloc (.cells #[.int .i64 p.s, .int .i64 p.n, .int .i64 p.d, .int .i64 p.r, .int .i64 p.l, .int .i64 p.b, .int .i64 p.g, .int .i64 p.k, .slice a n cap, .int .i64 al, .int .i64 m.a, .bool m.b, .int .i64 m.n, .int .i64 m.d, .string ⟨m.s.toArray⟩, .slice ta tn tc, .int .i64 rf] 33)).alloc (.cells #[.int .i64 0, .int .i64 0, .int .i64 0, .int .i64 0, .int .i64 0, .int .i64 0, .int .i64 0, .int .i64 0, .slice none 0 0, .int .i64 0, .int .i64 0, .bool false, .int .i64 0, .int .i64 0, .string ⟨#[]⟩, .slice none 0 0, .int .i64 0] 43)) (.cells #[.int .i64 0, .int .i64 0, .int .i64 0, .int .i64 0, .int .i64 0, .int .i64 0, .int .i64 0, .int .i64 0, .slice none 0 0, .int .i64 0, .int .i64 0, .bool false, .int .i64 0, .int .i64 0, .string ⟨#[]⟩, .slice none 0 0, .int .i64 0] 43)
    rw [show ((w.alloc (.cells #[.int .i64 p.s, .int .i64 p.n, .int .i64 p.d, .int .i64 p.r, .int .i64 p.l, .int .i64 p.b, .int .i64 p.g, .int .i64 p.k, .slice a n cap, .int .i64 al, .int .i64 m.a, .bool m.b, .int .i64 m.n, .int .i64 m.d, .string ⟨m.s.toArray⟩, .slice ta tn tc, .int .i64 rf] 33)).alloc (.cells #[.int .i64 0, .int .i64 0, .int .i64 0, .int .i64 0, .int .i64 0, .int .i64 0, .int .i64 0, .int .i64 0, .slice none 0 0, .int .i64 0, .int .i64 0, .bool false, .int .i64 0, .int .i64 0, .string ⟨#[]⟩, .slice none 0 0, .int .i64 0] 43)).heap.size = w.heap.size + 1 + 1 by simp] at h
    exact h
  clear hl ht hr hrt
  go_enter Tryd.func6, Tryd.ntmps6
  go_upto_region 2 with fail
  (try rw [hW3])
  clear hW3
  have c0 := box17_cells HX0.out
  go_wp2_with fail
  refine (toPmpL p _).mono ?_
  rintro e w1 ⟨rfl, hb⟩
  have HB1 : Hid (Below w.heap.size w w1) := bel_on (Nat.le_refl _) HB0.out hb
  have HX1 : Hid (w1.heap[w.heap.size]? = some (.cells #[.int .i64 p.s, .int .i64 p.n, .int .i64 p.d, .int .i64 p.r, .int .i64 p.l, .int .i64 p.b, .int .i64 p.g, .int .i64 p.k, .slice a n cap, .int .i64 al, .int .i64 m.a, .bool m.b, .int .i64 m.n, .int .i64 m.d, .string ⟨m.s.toArray⟩, .slice ta tn tc, .int .i64 rf] 33)) := row_on HX0.out hb
  have HZ1 : Hid (w1.heap[w.heap.size + 1]? = some (.cells #[.int .i64 0, .int .i64 0, .int .i64 0, .int .i64 0, .int .i64 0, .int .i64 0, .int .i64 0, .int .i64 0, .slice none 0 0, .int .i64 0, .int .i64 0, .bool false, .int .i64 0, .int .i64 0, .string ⟨#[]⟩, .slice none 0 0, .int .i64 0] 43)) := row_on HZ0.out hb
  have HV1 : Hid (w1.heap[w.heap.size + 1 + 1]? = some (.cells #[.int .i64 0, .int .i64 0, .int .i64 0, .int .i64 0, .int .i64 0, .int .i64 0, .int .i64 0, .int .i64 0, .slice none 0 0, .int .i64 0, .int .i64 0, .bool false, .int .i64 0, .int .i64 0, .string ⟨#[]⟩, .slice none 0 0, .int .i64 0] 43)) := row_on HV0.out hb
  clear HB0 HX0 HZ0 HV0 hb
  clear c0
  go_wp2_with (refine listPump rfl rfl _ _ _ rfl (w.heap.size + 1 + 1) (.int .i64 p.s) (.int .i64 p.n) (.int .i64 p.d) (.int .i64 p.r) (.int .i64 p.l) (.int .i64 p.b) (.int .i64 p.g) (.int .i64 p.k) rfl rfl HV1.out (by kernel_rfl) (by kernel_rfl) ?_)
  intro w2 hput
  have HB2 : Hid (Below w.heap.size w w2) := hput.2.2.2 _ _ (by omega) HB1.out
  have HX2 : Hid (w2.heap[w.heap.size]? = some (.cells #[.int .i64 p.s, .int .i64 p.n, .int .i64 p.d, .int .i64 p.r, .int .i64 p.l, .int .i64 p.b, .int .i64 p.g, .int .i64 p.k, .slice a n cap, .int .i64 al, .int .i64 m.a, .bool m.b, .int .i64 m.n, .int .i64 m.d, .string ⟨m.s.toArray⟩, .slice ta tn tc, .int .i64 rf] 33)) := hput.far HX1.out (by omega)
  have HZ2 : Hid (w2.heap[w.heap.size + 1]? = some (.cells #[.int .i64 0, .int .i64 0, .int .i64 0, .int .i64 0, .int .i64 0, .int .i64 0, .int .i64 0, .int .i64 0, .slice none 0 0, .int .i64 0, .int .i64 0, .bool false, .int .i64 0, .int .i64 0, .string ⟨#[]⟩, .slice none 0 0, .int .i64 0] 43)) := hput.far HZ1.out (by omega)
  have HV2 : Hid (w2.heap[w.heap.size + 1 + 1]? = some (.cells #[.int .i64 p.s, .int .i64 p.n, .int .i64 p.d, .int .i64 p.r, .int .i64 p.l, .int .i64 p.b, .int .i64 p.g, .int .i64 p.k, .slice none 0 0, .int .i64 0, .int .i64 0, .bool false, .int .i64 0, .int .i64 0, .string ⟨#[]⟩, .slice none 0 0, .int .i64 0] 43)) := hput.1
  clear HB1 HX1 HZ1 HV1 hput
  go_upto_region 3 with fail
  have c2 := box17_cells HX2.out
  go_wp2_with fail
  refine (G.toG a al l n cap HL.out hn _ (HRL.out.keep HB2.out (Nat.le_refl _))).mono ?_
  rintro e w3 ⟨g, rfl, hg, hrow, hb⟩
  have hg3 : w.heap.size + 3 ≤ g := by have := row_lt HV2.out; omega
  have HB3 : Hid (Below w.heap.size w w3) := bel_on (Nat.le_refl _) HB2.out hb
  have HX3 : Hid (w3.heap[w.heap.size]? = some (.cells #[.int .i64 p.s, .int .i64 p.n, .int .i64 p.d, .int .i64 p.r, .int .i64 p.l, .int .i64 p.b, .int .i64 p.g, .int .i64 p.k, .slice a n cap, .int .i64 al, .int .i64 m.a, .bool m.b, .int .i64 m.n, .int .i64 m.d, .string ⟨m.s.toArray⟩, .slice ta tn tc, .int .i64 rf] 33)) := row_on HX2.out hb
  have HZ3 : Hid (w3.heap[w.heap.size + 1]? = some (.cells #[.int .i64 0, .int .i64 0, .int .i64 0, .int .i64 0, .int .i64 0, .int .i64 0, .int .i64 0, .int .i64 0, .slice none 0 0, .int .i64 0, .int .i64 0, .bool false, .int .i64 0, .int .i64 0, .string ⟨#[]⟩, .slice none 0 0, .int .i64 0] 43)) := row_on HZ2.out hb
  have HV3 : Hid (w3.heap[w.heap.size + 1 + 1]? = some (.cells #[.int .i64 p.s, .int .i64 p.n, .int .i64 p.d, .int .i64 p.r, .int .i64 p.l, .int .i64 p.b, .int .i64 p.g, .int .i64 p.k, .slice none 0 0, .int .i64 0, .int .i64 0, .bool false, .int .i64 0, .int .i64 0, .string ⟨#[]⟩, .slice none 0 0, .int .i64 0] 43)) := row_on HV2.out hb
  have HG3 : Hid (G.RowAt w3 g l) := hrow
  clear HB2 HX2 HZ2 HV2 hb
  clear c2
  go_wp2_with (refine listGuard rfl rfl _ _ _ rfl (w.heap.size + 1 + 1) (.slice (some ⟨g, 0, none⟩) n n) (.int .i64 al) rfl rfl HV3.out (by kernel_rfl) (by kernel_rfl) ?_)
  intro w4 hput
  have HB4 : Hid (Below w.heap.size w w4) := hput.2.2.2 _ _ (by omega) HB3.out
  have HX4 : Hid (w4.heap[w.heap.size]? = some (.cells #[.int .i64 p.s, .int .i64 p.n, .int .i64 p.d, .int .i64 p.r, .int .i64 p.l, .int .i64 p.b, .int .i64 p.g, .int .i64 p.k, .slice a n cap, .int .i64 al, .int .i64 m.a, .bool m.b, .int .i64 m.n, .int .i64 m.d, .string ⟨m.s.toArray⟩, .slice ta tn tc, .int .i64 rf] 33)) := hput.far HX3.out (by omega)
  have HZ4 : Hid (w4.heap[w.heap.size + 1]? = some (.cells #[.int .i64 0, .int .i64 0, .int .i64 0, .int .i64 0, .int .i64 0, .int .i64 0, .int .i64 0, .int .i64 0, .slice none 0 0, .int .i64 0, .int .i64 0, .bool false, .int .i64 0, .int .i64 0, .string ⟨#[]⟩, .slice none 0 0, .int .i64 0] 43)) := hput.far HZ3.out (by omega)
  have HV4 : Hid (w4.heap[w.heap.size + 1 + 1]? = some (.cells #[.int .i64 p.s, .int .i64 p.n, .int .i64 p.d, .int .i64 p.r, .int .i64 p.l, .int .i64 p.b, .int .i64 p.g, .int .i64 p.k, .slice (some ⟨g, 0, none⟩) n n, .int .i64 al, .int .i64 0, .bool false, .int .i64 0, .int .i64 0, .string ⟨#[]⟩, .slice none 0 0, .int .i64 0] 43)) := hput.1
  have HG4 : Hid (G.RowAt w4 g l) := (hput.2.1 _ (by omega)).trans HG3.out
  clear HB3 HX3 HZ3 HV3 HG3 hput
  go_upto_region 4 with fail
  have c4 := box17_cells HX4.out
  go_wp2_with fail
  refine (toMnuL m _).mono ?_
  rintro e w5 ⟨rfl, hb⟩
  have HB5 : Hid (Below w.heap.size w w5) := bel_on (Nat.le_refl _) HB4.out hb
  have HX5 : Hid (w5.heap[w.heap.size]? = some (.cells #[.int .i64 p.s, .int .i64 p.n, .int .i64 p.d, .int .i64 p.r, .int .i64 p.l, .int .i64 p.b, .int .i64 p.g, .int .i64 p.k, .slice a n cap, .int .i64 al, .int .i64 m.a, .bool m.b, .int .i64 m.n, .int .i64 m.d, .string ⟨m.s.toArray⟩, .slice ta tn tc, .int .i64 rf] 33)) := row_on HX4.out hb
  have HZ5 : Hid (w5.heap[w.heap.size + 1]? = some (.cells #[.int .i64 0, .int .i64 0, .int .i64 0, .int .i64 0, .int .i64 0, .int .i64 0, .int .i64 0, .int .i64 0, .slice none 0 0, .int .i64 0, .int .i64 0, .bool false, .int .i64 0, .int .i64 0, .string ⟨#[]⟩, .slice none 0 0, .int .i64 0] 43)) := row_on HZ4.out hb
  have HV5 : Hid (w5.heap[w.heap.size + 1 + 1]? = some (.cells #[.int .i64 p.s, .int .i64 p.n, .int .i64 p.d, .int .i64 p.r, .int .i64 p.l, .int .i64 p.b, .int .i64 p.g, .int .i64 p.k, .slice (some ⟨g, 0, none⟩) n n, .int .i64 al, .int .i64 0, .bool false, .int .i64 0, .int .i64 0, .string ⟨#[]⟩, .slice none 0 0, .int .i64 0] 43)) := row_on HV4.out hb
  have HG5 : Hid (G.RowAt w5 g l) := HG4.out.keep hb HG4.out.lt
  clear HB4 HX4 HZ4 HV4 HG4 hb
  clear c4
  go_wp2_with (refine listMenu rfl rfl _ _ _ rfl (w.heap.size + 1 + 1) (.int .i64 m.a) (.bool m.b) (.int .i64 m.n) (.int .i64 m.d) (.string ⟨m.s.toArray⟩) rfl rfl HV5.out (by kernel_rfl) (by kernel_rfl) ?_)
  intro w6 hput
  have HB6 : Hid (Below w.heap.size w w6) := hput.2.2.2 _ _ (by omega) HB5.out
  have HX6 : Hid (w6.heap[w.heap.size]? = some (.cells #[.int .i64 p.s, .int .i64 p.n, .int .i64 p.d, .int .i64 p.r, .int .i64 p.l, .int .i64 p.b, .int .i64 p.g, .int .i64 p.k, .slice a n cap, .int .i64 al, .int .i64 m.a, .bool m.b, .int .i64 m.n, .int .i64 m.d, .string ⟨m.s.toArray⟩, .slice ta tn tc, .int .i64 rf] 33)) := hput.far HX5.out (by omega)
  have HZ6 : Hid (w6.heap[w.heap.size + 1]? = some (.cells #[.int .i64 0, .int .i64 0, .int .i64 0, .int .i64 0, .int .i64 0, .int .i64 0, .int .i64 0, .int .i64 0, .slice none 0 0, .int .i64 0, .int .i64 0, .bool false, .int .i64 0, .int .i64 0, .string ⟨#[]⟩, .slice none 0 0, .int .i64 0] 43)) := hput.far HZ5.out (by omega)
  have HV6 : Hid (w6.heap[w.heap.size + 1 + 1]? = some (.cells #[.int .i64 p.s, .int .i64 p.n, .int .i64 p.d, .int .i64 p.r, .int .i64 p.l, .int .i64 p.b, .int .i64 p.g, .int .i64 p.k, .slice (some ⟨g, 0, none⟩) n n, .int .i64 al, .int .i64 m.a, .bool m.b, .int .i64 m.n, .int .i64 m.d, .string ⟨m.s.toArray⟩, .slice none 0 0, .int .i64 0] 43)) := hput.1
  have HG6 : Hid (G.RowAt w6 g l) := (hput.2.1 _ (by omega)).trans HG5.out
  clear HB5 HX5 HZ5 HV5 HG5 hput
  go_upto_region 5 with fail
  have c6 := box17_cells HX6.out
  obtain ⟨gt, hgt⟩ : ∃ gt, w6.heap.size = gt := ⟨_, rfl⟩
  have hgt6 : w.heap.size + 3 ≤ gt := by have := row_lt HV6.out; omega
  go_wp2_with fail
  refine (toYs ta t tn tc HT.out htn _ (HRT.out.keep HB6.out (Nat.le_refl _))).mono ?_
  rintro e w7 ⟨rfl, hrow, hb⟩
  rw [hgt] at hrow ⊢
  have HB7 : Hid (Below w.heap.size w w7) := bel_on (Nat.le_refl _) HB6.out hb
  have HX7 : Hid (w7.heap[w.heap.size]? = some (.cells #[.int .i64 p.s, .int .i64 p.n, .int .i64 p.d, .int .i64 p.r, .int .i64 p.l, .int .i64 p.b, .int .i64 p.g, .int .i64 p.k, .slice a n cap, .int .i64 al, .int .i64 m.a, .bool m.b, .int .i64 m.n, .int .i64 m.d, .string ⟨m.s.toArray⟩, .slice ta tn tc, .int .i64 rf] 33)) := row_on HX6.out hb
  have HZ7 : Hid (w7.heap[w.heap.size + 1]? = some (.cells #[.int .i64 0, .int .i64 0, .int .i64 0, .int .i64 0, .int .i64 0, .int .i64 0, .int .i64 0, .int .i64 0, .slice none 0 0, .int .i64 0, .int .i64 0, .bool false, .int .i64 0, .int .i64 0, .string ⟨#[]⟩, .slice none 0 0, .int .i64 0] 43)) := row_on HZ6.out hb
  have HV7 : Hid (w7.heap[w.heap.size + 1 + 1]? = some (.cells #[.int .i64 p.s, .int .i64 p.n, .int .i64 p.d, .int .i64 p.r, .int .i64 p.l, .int .i64 p.b, .int .i64 p.g, .int .i64 p.k, .slice (some ⟨g, 0, none⟩) n n, .int .i64 al, .int .i64 m.a, .bool m.b, .int .i64 m.n, .int .i64 m.d, .string ⟨m.s.toArray⟩, .slice none 0 0, .int .i64 0] 43)) := row_on HV6.out hb
  have HG7 : Hid (G.RowAt w7 g l) := HG6.out.keep hb HG6.out.lt
  have HY7 : Hid (RowY w7 gt t) := hrow
  clear HB6 HX6 HZ6 HV6 HG6 hb
  clear c6
  go_wp2_with (refine listStoreU rfl rfl _ _ _ rfl rfl (w.heap.size + 1 + 1) 15 tn tn (some ⟨gt, 0, none⟩) rfl rfl HV7.out (by simp) ?_)
  intro w8 hput
  have HB8 : Hid (Below w.heap.size w w8) := hput.2.2.2 _ _ (by omega) HB7.out
  have HX8 : Hid (w8.heap[w.heap.size]? = some (.cells #[.int .i64 p.s, .int .i64 p.n, .int .i64 p.d, .int .i64 p.r, .int .i64 p.l, .int .i64 p.b, .int .i64 p.g, .int .i64 p.k, .slice a n cap, .int .i64 al, .int .i64 m.a, .bool m.b, .int .i64 m.n, .int .i64 m.d, .string ⟨m.s.toArray⟩, .slice ta tn tc, .int .i64 rf] 33)) := hput.far HX7.out (by omega)
  have HZ8 : Hid (w8.heap[w.heap.size + 1]? = some (.cells #[.int .i64 0, .int .i64 0, .int .i64 0, .int .i64 0, .int .i64 0, .int .i64 0, .int .i64 0, .int .i64 0, .slice none 0 0, .int .i64 0, .int .i64 0, .bool false, .int .i64 0, .int .i64 0, .string ⟨#[]⟩, .slice none 0 0, .int .i64 0] 43)) := hput.far HZ7.out (by omega)
  have HV8 : Hid (w8.heap[w.heap.size + 1 + 1]? = some (.cells #[.int .i64 p.s, .int .i64 p.n, .int .i64 p.d, .int .i64 p.r, .int .i64 p.l, .int .i64 p.b, .int .i64 p.g, .int .i64 p.k, .slice (some ⟨g, 0, none⟩) n n, .int .i64 al, .int .i64 m.a, .bool m.b, .int .i64 m.n, .int .i64 m.d, .string ⟨m.s.toArray⟩, .slice (some ⟨gt, 0, none⟩) tn tn, .int .i64 0] 43)) := hput.1
  have HG8 : Hid (G.RowAt w8 g l) := (hput.2.1 _ (by omega)).trans HG7.out
  have HY8 : Hid (RowY w8 gt t) := (hput.2.1 _ (by omega)).trans HY7.out
  clear HB7 HX7 HZ7 HV7 HG7 HY7 hput
  go_upto_region 6 with fail
  have c8 := box17_cells HX8.out
  go_wp2_with (refine listStoreI rfl rfl _ _ _ rfl rfl (w.heap.size + 1 + 1) 16 rf rfl rfl HV8.out (by simp) ?_)
  intro w9 hput
  have HB9 : Hid (Below w.heap.size w w9) := hput.2.2.2 _ _ (by omega) HB8.out
  have HX9 : Hid (w9.heap[w.heap.size]? = some (.cells #[.int .i64 p.s, .int .i64 p.n, .int .i64 p.d, .int .i64 p.r, .int .i64 p.l, .int .i64 p.b, .int .i64 p.g, .int .i64 p.k, .slice a n cap, .int .i64 al, .int .i64 m.a, .bool m.b, .int .i64 m.n, .int .i64 m.d, .string ⟨m.s.toArray⟩, .slice ta tn tc, .int .i64 rf] 33)) := hput.far HX8.out (by omega)
  have HZ9 : Hid (w9.heap[w.heap.size + 1]? = some (.cells #[.int .i64 0, .int .i64 0, .int .i64 0, .int .i64 0, .int .i64 0, .int .i64 0, .int .i64 0, .int .i64 0, .slice none 0 0, .int .i64 0, .int .i64 0, .bool false, .int .i64 0, .int .i64 0, .string ⟨#[]⟩, .slice none 0 0, .int .i64 0] 43)) := hput.far HZ8.out (by omega)
  have HV9 : Hid (w9.heap[w.heap.size + 1 + 1]? = some (.cells #[.int .i64 p.s, .int .i64 p.n, .int .i64 p.d, .int .i64 p.r, .int .i64 p.l, .int .i64 p.b, .int .i64 p.g, .int .i64 p.k, .slice (some ⟨g, 0, none⟩) n n, .int .i64 al, .int .i64 m.a, .bool m.b, .int .i64 m.n, .int .i64 m.d, .string ⟨m.s.toArray⟩, .slice (some ⟨gt, 0, none⟩) tn tn, .int .i64 rf] 43)) := hput.1
  have HG9 : Hid (G.RowAt w9 g l) := (hput.2.1 _ (by omega)).trans HG8.out
  have HY9 : Hid (RowY w9 gt t) := (hput.2.1 _ (by omega)).trans HY8.out
  clear HB8 HX8 HZ8 HV8 HG8 HY8 hput
  clear c8
  go_upto_region 7 with fail
  go_wp2_with (first | refine wpList_load_row rfl _ _ rfl (w.heap.size + 1 + 1) rfl _ _ _ _ HV9.out Tryd.underlying43 rfl (by kernel_rfl) ?_ | refine listStoreD rfl rfl _ _ _ rfl rfl (w.heap.size + 1) #[.int .i64 p.s, .int .i64 p.n, .int .i64 p.d, .int .i64 p.r, .int .i64 p.l, .int .i64 p.b, .int .i64 p.g, .int .i64 p.k, .slice (some ⟨g, 0, none⟩) n n, .int .i64 al, .int .i64 m.a, .bool m.b, .int .i64 m.n, .int .i64 m.d, .string ⟨m.s.toArray⟩, .slice (some ⟨gt, 0, none⟩) tn tn, .int .i64 rf] rfl rfl rfl (by kernel_rfl) HZ9.out rfl ?_)
  intro w10 hput
  have HB10 : Hid (Below w.heap.size w w10) := hput.2.2.2 _ _ (by omega) HB9.out
  have HX10 : Hid (w10.heap[w.heap.size]? = some (.cells #[.int .i64 p.s, .int .i64 p.n, .int .i64 p.d, .int .i64 p.r, .int .i64 p.l, .int .i64 p.b, .int .i64 p.g, .int .i64 p.k, .slice a n cap, .int .i64 al, .int .i64 m.a, .bool m.b, .int .i64 m.n, .int .i64 m.d, .string ⟨m.s.toArray⟩, .slice ta tn tc, .int .i64 rf] 33)) := hput.far HX9.out (by omega)
  have HZ10 : Hid (w10.heap[w.heap.size + 1]? = some (.cells #[.int .i64 p.s, .int .i64 p.n, .int .i64 p.d, .int .i64 p.r, .int .i64 p.l, .int .i64 p.b, .int .i64 p.g, .int .i64 p.k, .slice (some ⟨g, 0, none⟩) n n, .int .i64 al, .int .i64 m.a, .bool m.b, .int .i64 m.n, .int .i64 m.d, .string ⟨m.s.toArray⟩, .slice (some ⟨gt, 0, none⟩) tn tn, .int .i64 rf] 43)) := hput.1
  have HV10 : Hid (w10.heap[w.heap.size + 1 + 1]? = some (.cells #[.int .i64 p.s, .int .i64 p.n, .int .i64 p.d, .int .i64 p.r, .int .i64 p.l, .int .i64 p.b, .int .i64 p.g, .int .i64 p.k, .slice (some ⟨g, 0, none⟩) n n, .int .i64 al, .int .i64 m.a, .bool m.b, .int .i64 m.n, .int .i64 m.d, .string ⟨m.s.toArray⟩, .slice (some ⟨gt, 0, none⟩) tn tn, .int .i64 rf] 43)) := hput.far HV9.out (by omega)
  have HG10 : Hid (G.RowAt w10 g l) := (hput.2.1 _ (by omega)).trans HG9.out
  have HY10 : Hid (RowY w10 gt t) := (hput.2.1 _ (by omega)).trans HY9.out
  clear HB9 HX9 HZ9 HV9 HG9 HY9 hput
  go_wp2
  refine bodyPost_ret (v := .agg #[.int .i64 p.s, .int .i64 p.n, .int .i64 p.d, .int .i64 p.r, .int .i64 p.l, .int .i64 p.b, .int .i64 p.g, .int .i64 p.k, .slice (some ⟨g, 0, none⟩) n n, .int .i64 al, .int .i64 m.a, .bool m.b, .int .i64 m.n, .int .i64 m.d, .string ⟨m.s.toArray⟩, .slice (some ⟨gt, 0, none⟩) tn tn, .int .i64 rf]) (results_cell_row Tryd.results6 _ _ (w.heap.size + 1) _ _ _ _ rfl HZ10.out Tryd.underlying43 rfl (by kernel_rfl)) rfl ⟨g, gt, rfl, by omega, by omega, HG10.out, HY10.out, HB10.out⟩
set_option maxRecDepth 100000 in
set_option maxHeartbeats 4000000 in
theorem eqDv (p : Pm) (a b : Option Addr) (n ca cb : Nat) (l : List Int) (al : Int) (m : Mn) (ta tb : Option Addr) (tn tc td : Nat) (t : List Tk3) (rf : Int) (hl : l.length = n) (hn : n ≤ 1048576) (ht : t.length = tn) (htn : tn ≤ 1048576) (w : World) (hr : G.Rd w a l) (hs : G.Rd w b l) (hrt : RdY w ta t) (hst : RdY w tb t) :
    Calls Tryd.prog 8 #[.agg #[.int .i64 p.s, .int .i64 p.n, .int .i64 p.d, .int .i64 p.r, .int .i64 p.l, .int .i64 p.b, .int .i64 p.g, .int .i64 p.k, .slice a n ca, .int .i64 al, .int .i64 m.a, .bool m.b, .int .i64 m.n, .int .i64 m.d, .string ⟨m.s.toArray⟩, .slice ta tn tc, .int .i64 rf], .agg #[.int .i64 p.s, .int .i64 p.n, .int .i64 p.d, .int .i64 p.r, .int .i64 p.l, .int .i64 p.b, .int .i64 p.g, .int .i64 p.k, .slice b n cb, .int .i64 al, .int .i64 m.a, .bool m.b, .int .i64 m.n, .int .i64 m.d, .string ⟨m.s.toArray⟩, .slice tb tn td, .int .i64 rf]] w fun e w' => e = .returned (.bool true) ∧ Below w.heap.size w w' := by
  have HL : Hid (l.length = n) := hl
  have HT : Hid (t.length = tn) := ht
  have HRA : Hid (G.Rd w a l) := hr
  have HRB : Hid (G.Rd w b l) := hs
  have HTA : Hid (RdY w ta t) := hrt
  have HTB : Hid (RdY w tb t) := hst
  obtain ⟨W2, hW2⟩ : ∃ W2, ((w.alloc (.cells #[.int .i64 p.s, .int .i64 p.n, .int .i64 p.d, .int .i64 p.r, .int .i64 p.l, .int .i64 p.b, .int .i64 p.g, .int .i64 p.k, .slice a n ca, .int .i64 al, .int .i64 m.a, .bool m.b, .int .i64 m.n, .int .i64 m.d, .string ⟨m.s.toArray⟩, .slice ta tn tc, .int .i64 rf] 43)).alloc (.cells #[.int .i64 p.s, .int .i64 p.n, .int .i64 p.d, .int .i64 p.r, .int .i64 p.l, .int .i64 p.b, .int .i64 p.g, .int .i64 p.k, .slice b n cb, .int .i64 al, .int .i64 m.a, .bool m.b, .int .i64 m.n, .int .i64 m.d, .string ⟨m.s.toArray⟩, .slice tb tn td, .int .i64 rf] 43)) = W2 := ⟨_, rfl⟩
  have HB0 : Hid (Below w.heap.size w W2) := by rw [← hW2]; exact bel_on (Nat.le_refl _) (alM _ _) (alM _ _)
  have HX0 : Hid (W2.heap[w.heap.size]? = some (.cells #[.int .i64 p.s, .int .i64 p.n, .int .i64 p.d, .int .i64 p.r, .int .i64 p.l, .int .i64 p.b, .int .i64 p.g, .int .i64 p.k, .slice a n ca, .int .i64 al, .int .i64 m.a, .bool m.b, .int .i64 m.n, .int .i64 m.d, .string ⟨m.s.toArray⟩, .slice ta tn tc, .int .i64 rf] 43)) := by rw [← hW2]; exact row_on (heap_new w _) (alM _ _)
  have HZ0 : Hid (W2.heap[w.heap.size + 1]? = some (.cells #[.int .i64 p.s, .int .i64 p.n, .int .i64 p.d, .int .i64 p.r, .int .i64 p.l, .int .i64 p.b, .int .i64 p.g, .int .i64 p.k, .slice b n cb, .int .i64 al, .int .i64 m.a, .bool m.b, .int .i64 m.n, .int .i64 m.d, .string ⟨m.s.toArray⟩, .slice tb tn td, .int .i64 rf] 43)) := by
    rw [← hW2]
    have h := heap_new (w.alloc (.cells #[.int .i64 p.s, .int .i64 p.n, .int .i64 p.d, .int .i64 p.r, .int .i64 p.l, .int .i64 p.b, .int .i64 p.g, .int .i64 p.k, .slice a n ca, .int .i64 al, .int .i64 m.a, .bool m.b, .int .i64 m.n, .int .i64 m.d, .string ⟨m.s.toArray⟩, .slice ta tn tc, .int .i64 rf] 43)) (.cells #[.int .i64 p.s, .int .i64 p.n, .int .i64 p.d, .int .i64 p.r, .int .i64 p.l, .int .i64 p.b, .int .i64 p.g, .int .i64 p.k, .slice b n cb, .int .i64 al, .int .i64 m.a, .bool m.b, .int .i64 m.n, .int .i64 m.d, .string ⟨m.s.toArray⟩, .slice tb tn td, .int .i64 rf] 43)
    rw [show (w.alloc (.cells #[.int .i64 p.s, .int .i64 p.n, .int .i64 p.d, .int .i64 p.r, .int .i64 p.l, .int .i64 p.b, .int .i64 p.g, .int .i64 p.k, .slice a n ca, .int .i64 al, .int .i64 m.a, .bool m.b, .int .i64 m.n, .int .i64 m.d, .string ⟨m.s.toArray⟩, .slice ta tn tc, .int .i64 rf] 43)).heap.size = w.heap.size + 1 by simp] at h
    exact h
  clear hl ht hr hs hrt hst
  go_enter Tryd.func8, Tryd.ntmps8
  go_upto_region 1 with fail
  (try rw [hW2])
  clear hW2
  have c0 := box17_cells HX0.out
  have d0 := box17_cells HZ0.out
  go_wp2_with fail
  refine (eqPmp p _).mono ?_
  rintro e w1 ⟨rfl, hb⟩
  have HB1 : Hid (Below w.heap.size w w1) := bel_on (Nat.le_refl _) HB0.out hb
  have HX1 : Hid (w1.heap[w.heap.size]? = some (.cells #[.int .i64 p.s, .int .i64 p.n, .int .i64 p.d, .int .i64 p.r, .int .i64 p.l, .int .i64 p.b, .int .i64 p.g, .int .i64 p.k, .slice a n ca, .int .i64 al, .int .i64 m.a, .bool m.b, .int .i64 m.n, .int .i64 m.d, .string ⟨m.s.toArray⟩, .slice ta tn tc, .int .i64 rf] 43)) := row_on HX0.out hb
  have HZ1 : Hid (w1.heap[w.heap.size + 1]? = some (.cells #[.int .i64 p.s, .int .i64 p.n, .int .i64 p.d, .int .i64 p.r, .int .i64 p.l, .int .i64 p.b, .int .i64 p.g, .int .i64 p.k, .slice b n cb, .int .i64 al, .int .i64 m.a, .bool m.b, .int .i64 m.n, .int .i64 m.d, .string ⟨m.s.toArray⟩, .slice tb tn td, .int .i64 rf] 43)) := row_on HZ0.out hb
  clear HB0 HX0 HZ0 hb
  clear c0 d0
  have c1 := box17_cells HX1.out
  have d1 := box17_cells HZ1.out
  go_wp2_with fail
  refine (G.eqG a b al l n ca cb HL.out hn _ (HRA.out.keep HB1.out (Nat.le_refl _)) (HRB.out.keep HB1.out (Nat.le_refl _))).mono ?_
  rintro e w2 ⟨rfl, hb⟩
  have HB2 : Hid (Below w.heap.size w w2) := bel_on (Nat.le_refl _) HB1.out hb
  have HX2 : Hid (w2.heap[w.heap.size]? = some (.cells #[.int .i64 p.s, .int .i64 p.n, .int .i64 p.d, .int .i64 p.r, .int .i64 p.l, .int .i64 p.b, .int .i64 p.g, .int .i64 p.k, .slice a n ca, .int .i64 al, .int .i64 m.a, .bool m.b, .int .i64 m.n, .int .i64 m.d, .string ⟨m.s.toArray⟩, .slice ta tn tc, .int .i64 rf] 43)) := row_on HX1.out hb
  have HZ2 : Hid (w2.heap[w.heap.size + 1]? = some (.cells #[.int .i64 p.s, .int .i64 p.n, .int .i64 p.d, .int .i64 p.r, .int .i64 p.l, .int .i64 p.b, .int .i64 p.g, .int .i64 p.k, .slice b n cb, .int .i64 al, .int .i64 m.a, .bool m.b, .int .i64 m.n, .int .i64 m.d, .string ⟨m.s.toArray⟩, .slice tb tn td, .int .i64 rf] 43)) := row_on HZ1.out hb
  clear HB1 HX1 HZ1 hb
  clear c1 d1
  have c2 := box17_cells HX2.out
  have d2 := box17_cells HZ2.out
  go_wp2_with fail
  refine (eqMnu m _).mono ?_
  rintro e w3 ⟨rfl, hb⟩
  have HB3 : Hid (Below w.heap.size w w3) := bel_on (Nat.le_refl _) HB2.out hb
  have HX3 : Hid (w3.heap[w.heap.size]? = some (.cells #[.int .i64 p.s, .int .i64 p.n, .int .i64 p.d, .int .i64 p.r, .int .i64 p.l, .int .i64 p.b, .int .i64 p.g, .int .i64 p.k, .slice a n ca, .int .i64 al, .int .i64 m.a, .bool m.b, .int .i64 m.n, .int .i64 m.d, .string ⟨m.s.toArray⟩, .slice ta tn tc, .int .i64 rf] 43)) := row_on HX2.out hb
  have HZ3 : Hid (w3.heap[w.heap.size + 1]? = some (.cells #[.int .i64 p.s, .int .i64 p.n, .int .i64 p.d, .int .i64 p.r, .int .i64 p.l, .int .i64 p.b, .int .i64 p.g, .int .i64 p.k, .slice b n cb, .int .i64 al, .int .i64 m.a, .bool m.b, .int .i64 m.n, .int .i64 m.d, .string ⟨m.s.toArray⟩, .slice tb tn td, .int .i64 rf] 43)) := row_on HZ2.out hb
  clear HB2 HX2 HZ2 hb
  clear c2 d2
  have c3 := box17_cells HX3.out
  have d3 := box17_cells HZ3.out
  go_wp2_with fail
  refine (eqYs ta tb t tn tc td HT.out htn _ (HTA.out.keep HB3.out (Nat.le_refl _)) (HTB.out.keep HB3.out (Nat.le_refl _))).mono ?_
  rintro e w4 ⟨rfl, hb⟩
  have HB4 : Hid (Below w.heap.size w w4) := bel_on (Nat.le_refl _) HB3.out hb
  have HX4 : Hid (w4.heap[w.heap.size]? = some (.cells #[.int .i64 p.s, .int .i64 p.n, .int .i64 p.d, .int .i64 p.r, .int .i64 p.l, .int .i64 p.b, .int .i64 p.g, .int .i64 p.k, .slice a n ca, .int .i64 al, .int .i64 m.a, .bool m.b, .int .i64 m.n, .int .i64 m.d, .string ⟨m.s.toArray⟩, .slice ta tn tc, .int .i64 rf] 43)) := row_on HX3.out hb
  have HZ4 : Hid (w4.heap[w.heap.size + 1]? = some (.cells #[.int .i64 p.s, .int .i64 p.n, .int .i64 p.d, .int .i64 p.r, .int .i64 p.l, .int .i64 p.b, .int .i64 p.g, .int .i64 p.k, .slice b n cb, .int .i64 al, .int .i64 m.a, .bool m.b, .int .i64 m.n, .int .i64 m.d, .string ⟨m.s.toArray⟩, .slice tb tn td, .int .i64 rf] 43)) := row_on HZ3.out hb
  clear HB3 HX3 HZ3 hb
  clear c3 d3
  have c4 := box17_cells HX4.out
  have d4 := box17_cells HZ4.out
  go_wp2
  go_ret
  exact ⟨rfl, HB4.out⟩
end Go.Proofs.YtckeffccoghgeaaDoor
