/-
  TickDevice of the program at right devices that ticks lead to.
-/
import Derived.Test.YtbcegpncledolaaDoorGrAT
import Derived.Test.YtbcegpncledolaaDoorGrAV
import Derived.Test.YtbcegpncledolaaDoorGrAD
import Derived.Test.YtbcegpncledolaaDoorGrBD
import Derived.Test.YtbcegpncledolaaDoorGrAH
namespace Go.Proofs.YtbcegpncledolaaDoor
open Go.RowKit Go.PlainAid
set_option linter.unusedVariables false
set_option linter.unusedSimpArgs false

set_option maxRecDepth 100000 in
set_option maxHeartbeats 4000000 in
theorem mayI (p : Pm) (a : Option Addr) (n cap : Nat) (l : List Int) (al : Int) (m : Mn) (ta : Option Addr) (tn tc : Nat) (t : List Tk3) (rf : Int) (hl : l.length = n) (ht : t.length = tn) (hD : Dv.ok ⟨p, l, al, m, t, rf⟩) (htn : tn < 200) (hrf : rf ≤ 999999900) (w : World) (hr : G.Rd w a l) :
    Calls Tryd.prog 25 #[.agg #[.int .i64 p.s, .int .i64 p.n, .int .i64 p.d, .int .i64 p.r, .int .i64 p.l, .int .i64 p.b, .int .i64 p.g, .int .i64 p.k, .slice a n cap, .int .i64 al, .int .i64 m.a, .bool m.b, .int .i64 m.n, .int .i64 m.d, .string ⟨m.s.toArray⟩, .slice ta tn tc, .int .i64 rf]] w fun e w' => e = .returned (.bool true) ∧ Below w.heap.size w w' := by
  have HL : Hid (l.length = n) := hl
  have HOK : Hid (Dv.ok ⟨p, l, al, m, t, rf⟩) := hD
  have HR : Hid (G.Rd w a l) := hr
  have hn9 : n ≤ 9 := by have h := hD.g.1; dsimp only at h; omega
  have hr0 : 0 ≤ rf := hD.r
  obtain ⟨W0, hW0⟩ : ∃ W0, (w.alloc (.cells #[.int .i64 p.s, .int .i64 p.n, .int .i64 p.d, .int .i64 p.r, .int .i64 p.l, .int .i64 p.b, .int .i64 p.g, .int .i64 p.k, .slice a n cap, .int .i64 al, .int .i64 m.a, .bool m.b, .int .i64 m.n, .int .i64 m.d, .string ⟨m.s.toArray⟩, .slice ta tn tc, .int .i64 rf] 40)) = W0 := ⟨_, rfl⟩
  have HX0 : Hid (W0.heap[w.heap.size]? = some (.cells #[.int .i64 p.s, .int .i64 p.n, .int .i64 p.d, .int .i64 p.r, .int .i64 p.l, .int .i64 p.b, .int .i64 p.g, .int .i64 p.k, .slice a n cap, .int .i64 al, .int .i64 m.a, .bool m.b, .int .i64 m.n, .int .i64 m.d, .string ⟨m.s.toArray⟩, .slice ta tn tc, .int .i64 rf] 40)) := by rw [← hW0]; exact heap_new w _
  have HB0 : Hid (Below w.heap.size w W0) := by rw [← hW0]; exact alM _ _
  have h2 : (tn : Int) < 200 := by omega
  clear hl ht hD hr
  go_enter Tryd.func25, Tryd.ntmps25
  go_upto_region 1 with fail
  (try rw [hW0])
  clear hW0
  go_wp2_with (refine wpList_load_row rfl _ _ rfl w.heap.size rfl _ _ _ _ HX0.out Tryd.underlying40 rfl (by kernel_rfl) ?_)
  go_wp2_with fail
  refine (deviceokI p a n cap l al m ta tn tc rf true true true ⟨fun _ => HOK.out.p, fun _ => rfl⟩ ⟨fun _ => HOK.out.g, fun _ => rfl⟩ HOK.out.m.1 true (by unfold devB; rw [decide_eq_true (show (tn : Int) ≤ 200 by omega), decide_eq_true (show 0 ≤ rf ∧ rf ≤ 1000000000 by omega)]; rfl) HL.out (by omega) (by omega) _ (HR.out.keep HB0.out (Nat.le_refl _))).mono ?_
  rintro e w1 ⟨rfl, hbc⟩
  have HX1 : Hid (w1.heap[w.heap.size]? = some (.cells #[.int .i64 p.s, .int .i64 p.n, .int .i64 p.d, .int .i64 p.r, .int .i64 p.l, .int .i64 p.b, .int .i64 p.g, .int .i64 p.k, .slice a n cap, .int .i64 al, .int .i64 m.a, .bool m.b, .int .i64 m.n, .int .i64 m.d, .string ⟨m.s.toArray⟩, .slice ta tn tc, .int .i64 rf] 40)) := row_on HX0.out hbc
  have HB1 : Hid (Below w.heap.size w w1) := bel_on (Nat.le_refl _) HB0.out hbc
  have c1 := box17_cells HX1.out
  clear hbc HX0 HB0
  go_wp2
  go_ret
  exact ⟨rfl, HB1.out⟩
set_option maxRecDepth 100000 in
set_option maxHeartbeats 8000000 in
theorem tkdI (p : Pm) (a : Option Addr) (n cap : Nat) (l : List Int) (al : Int) (m : Mn) (ta : Option Addr) (tn tc : Nat) (t : List Tk3) (rf : Int) (x : Inp) (hx : x.ok) (hD : Dv.ok ⟨p, l, al, m, t, rf⟩) (hl : l.length = n) (ht : t.length = tn) (htn : tn < 200) (hrf : rf ≤ 900000000) (hms : m.s.length ≤ 1048576) (p2 : Pm) (l2 : List Int) (al2 : Int) (m2 : Mn) (t2 : List Tk3) (rf2 : Int) (hT : tickD ⟨p, l, al, m, t, rf⟩ x.i = ⟨p2, l2, al2, m2, t2, rf2⟩) (w : World) (htab : Q.Tab w) (hr : G.Rd w a l) (hrt : RdY w ta t) :
    Calls Tryd.prog 9 #[.agg #[.int .i64 p.s, .int .i64 p.n, .int .i64 p.d, .int .i64 p.r, .int .i64 p.l, .int .i64 p.b, .int .i64 p.g, .int .i64 p.k, .slice a n cap, .int .i64 al, .int .i64 m.a, .bool m.b, .int .i64 m.n, .int .i64 m.d, .string ⟨m.s.toArray⟩, .slice ta tn tc, .int .i64 rf], .agg #[.int .i64 x.i.b, .string x.K, .string x.L]] w fun e w' => ∃ g2 n2 c2 gt2 tn2 ct2, e = .returned (.agg #[.int .i64 p2.s, .int .i64 p2.n, .int .i64 p2.d, .int .i64 p2.r, .int .i64 p2.l, .int .i64 p2.b, .int .i64 p2.g, .int .i64 p2.k, .slice (some ⟨g2, 0, none⟩) n2 c2, .int .i64 al2, .int .i64 m2.a, .bool m2.b, .int .i64 m2.n, .int .i64 m2.d, .string ⟨m2.s.toArray⟩, .slice (some ⟨gt2, 0, none⟩) tn2 ct2, .int .i64 rf2]) ∧ G.OwnN w' w.heap.size g2 n2 c2 l2 ∧ OwnU w' w.heap.size gt2 tn2 ct2 t2 ∧ Below w.heap.size w w' := by
  have HL : Hid (l.length = n) := hl
  have HTL : Hid (t.length = tn) := ht
  have HOK : Hid (Dv.ok ⟨p, l, al, m, t, rf⟩) := hD
  have HXO : Hid x.ok := hx
  have HTK : Hid (tickD ⟨p, l, al, m, t, rf⟩ x.i = ⟨p2, l2, al2, m2, t2, rf2⟩) := hT
  have HTB : Hid (Q.Tab w) := htab
  have HR : Hid (G.Rd w a l) := hr
  have HRT : Hid (RdY w ta t) := hrt
  have hn9 : n ≤ 9 := by have h := hD.g.1; dsimp only at h; omega
  have HIN : Hid (decide ((0 ≤ x.i.b ∧ x.i.b ≤ 15) ∧ x.K.size ≤ 20 ∧ x.L.size ≤ 40) = true) := decide_eq_true ⟨hx.2.2.1, hx.2.2.2.1, hx.2.2.2.2⟩
  obtain ⟨W1, hW1⟩ : ∃ W1, (w.alloc (.cells #[.int .i64 p.s, .int .i64 p.n, .int .i64 p.d, .int .i64 p.r, .int .i64 p.l, .int .i64 p.b, .int .i64 p.g, .int .i64 p.k, .slice a n cap, .int .i64 al, .int .i64 m.a, .bool m.b, .int .i64 m.n, .int .i64 m.d, .string ⟨m.s.toArray⟩, .slice ta tn tc, .int .i64 rf] 40)) = W1 := ⟨_, rfl⟩
  obtain ⟨W2, hW2⟩ : ∃ W2, (W1.alloc (.cells #[.int .i64 x.i.b, .string x.K, .string x.L] 44)) = W2 := ⟨_, rfl⟩
  obtain ⟨W3, hW3⟩ : ∃ W3, (W2.alloc (.cells #[.int .i64 0, .int .i64 0, .int .i64 0, .int .i64 0, .int .i64 0, .int .i64 0, .int .i64 0, .int .i64 0, .slice none 0 0, .int .i64 0, .int .i64 0, .bool false, .int .i64 0, .int .i64 0, .string ⟨#[]⟩, .slice none 0 0, .int .i64 0] 40)) = W3 := ⟨_, rfl⟩
  have s1 : W1.heap.size = w.heap.size + 1 := by rw [← hW1]; simp
  have s2 : W2.heap.size = w.heap.size + 1 + 1 := by rw [← hW2]; simp [s1]
  have s3 : W3.heap.size = w.heap.size + 3 := by rw [← hW3]; simp [s2]
  have HX0 : Hid (W3.heap[w.heap.size]? = some (.cells #[.int .i64 p.s, .int .i64 p.n, .int .i64 p.d, .int .i64 p.r, .int .i64 p.l, .int .i64 p.b, .int .i64 p.g, .int .i64 p.k, .slice a n cap, .int .i64 al, .int .i64 m.a, .bool m.b, .int .i64 m.n, .int .i64 m.d, .string ⟨m.s.toArray⟩, .slice ta tn tc, .int .i64 rf] 40)) := by rw [← hW3, ← hW2, ← hW1]; exact row_on (row_on (heap_new w _) (alM _ _)) (alM _ _)
  have HI0 : Hid (W3.heap[w.heap.size + 1]? = some (.cells #[.int .i64 x.i.b, .string x.K, .string x.L] 44)) := by rw [← hW3, ← s1, ← hW2]; exact row_on (heap_new W1 _) (alM _ _)
  have HZ0 : Hid (W3.heap[w.heap.size + 1 + 1]? = some (.cells #[.int .i64 0, .int .i64 0, .int .i64 0, .int .i64 0, .int .i64 0, .int .i64 0, .int .i64 0, .int .i64 0, .slice none 0 0, .int .i64 0, .int .i64 0, .bool false, .int .i64 0, .int .i64 0, .string ⟨#[]⟩, .slice none 0 0, .int .i64 0] 40)) := by rw [← hW3, ← s2]; exact heap_new W2 _
  have HB0 : Hid (Below w.heap.size w W3) := by rw [← hW3, ← hW2, ← hW1]; exact bel_on (Nat.le_refl _) (bel_on (Nat.le_refl _) (alM _ _) (alM _ _)) (alM _ _)
  have HS3 : Hid (W3.heap.size = w.heap.size + 3) := s3
  clear hx hT hl ht hD hr hrt htab s3
  go_enter Tryd.func9, Tryd.ntmps9
  go_upto_region 1 with fail
  (try rw [hW1])
  (try rw [hW2])
  (try rw [hW3])
  (try rw [s2])
  clear s1 s2 hW1 hW2 hW3
  go_wp2_with (refine wpList_load_row rfl _ _ rfl w.heap.size rfl _ _ _ _ HX0.out Tryd.underlying40 rfl (by kernel_rfl) ?_)
  go_wp2_with fail
  refine (devofI p a n cap l al m ta tn tc t rf HL.out (by omega) HTL.out (by omega) hms _ (HR.out.keep HB0.out (Nat.le_refl _)) (HRT.out.keep HB0.out (Nat.le_refl _))).mono ?_
  rintro e w4 ⟨k, g1, g3, rfl, hX, hk, hG, hU, hbc⟩
  have hk3 : w.heap.size + 3 ≤ k := by have := HS3.out; omega
  have HD4 : Hid (w4.heap[k]? = some (.cells #[.int .i64 p.s, .int .i64 p.n, .int .i64 p.d, .int .i64 p.r, .int .i64 p.l, .int .i64 p.b, .int .i64 p.g, .int .i64 p.k, .slice (some ⟨g1, 0, none⟩) n n, .int .i64 al, .int .i64 m.a, .bool m.b, .int .i64 m.n, .int .i64 m.d, .string ⟨m.s.toArray⟩, .slice (some ⟨g3, 0, none⟩) tn tn, .int .i64 rf] 85)) := hX
  have HG4 : Hid (G.OwnN w4 (w.heap.size + 3) g1 n n l) := hG.mono (Nat.le_of_eq HS3.out.symm)
  have HU4 : Hid (OwnU w4 (w.heap.size + 3) g3 tn tn t) := hU.mono (Nat.le_of_eq HS3.out.symm)
  have HX4 : Hid (w4.heap[w.heap.size]? = some (.cells #[.int .i64 p.s, .int .i64 p.n, .int .i64 p.d, .int .i64 p.r, .int .i64 p.l, .int .i64 p.b, .int .i64 p.g, .int .i64 p.k, .slice a n cap, .int .i64 al, .int .i64 m.a, .bool m.b, .int .i64 m.n, .int .i64 m.d, .string ⟨m.s.toArray⟩, .slice ta tn tc, .int .i64 rf] 40)) := row_on HX0.out hbc
  have HI4 : Hid (w4.heap[w.heap.size + 1]? = some (.cells #[.int .i64 x.i.b, .string x.K, .string x.L] 44)) := row_on HI0.out hbc
  have HZ4 : Hid (w4.heap[w.heap.size + 1 + 1]? = some (.cells #[.int .i64 0, .int .i64 0, .int .i64 0, .int .i64 0, .int .i64 0, .int .i64 0, .int .i64 0, .int .i64 0, .slice none 0 0, .int .i64 0, .int .i64 0, .bool false, .int .i64 0, .int .i64 0, .string ⟨#[]⟩, .slice none 0 0, .int .i64 0] 40)) := row_on HZ0.out hbc
  have HB4 : Hid (Below w.heap.size w w4) := bel_on (Nat.le_refl _) HB0.out hbc
  have i4 := box3i_cells HI4.out
  clear hX hk hG hU hbc HX0 HI0 HZ0 HB0
  go_wp2_with (refine wpList_load_row rfl _ _ rfl w.heap.size rfl _ _ _ _ HX4.out Tryd.underlying40 rfl (by kernel_rfl) ?_)
  go_wp2_with fail
  refine (mayI p a n cap l al m ta tn tc t rf HL.out HTL.out HOK.out htn (by omega) _ (HR.out.keep HB4.out (Nat.le_refl _))).mono ?_
  rintro e w5 ⟨rfl, hbc⟩
  have HD5 : Hid (w5.heap[k]? = some (.cells #[.int .i64 p.s, .int .i64 p.n, .int .i64 p.d, .int .i64 p.r, .int .i64 p.l, .int .i64 p.b, .int .i64 p.g, .int .i64 p.k, .slice (some ⟨g1, 0, none⟩) n n, .int .i64 al, .int .i64 m.a, .bool m.b, .int .i64 m.n, .int .i64 m.d, .string ⟨m.s.toArray⟩, .slice (some ⟨g3, 0, none⟩) tn tn, .int .i64 rf] 85)) := row_on HD4.out hbc
  have HG5 : Hid (G.OwnN w5 (w.heap.size + 3) g1 n n l) := HG4.out.on hbc
  have HU5 : Hid (OwnU w5 (w.heap.size + 3) g3 tn tn t) := HU4.out.on hbc
  have HI5 : Hid (w5.heap[w.heap.size + 1]? = some (.cells #[.int .i64 x.i.b, .string x.K, .string x.L] 44)) := row_on HI4.out hbc
  have HZ5 : Hid (w5.heap[w.heap.size + 1 + 1]? = some (.cells #[.int .i64 0, .int .i64 0, .int .i64 0, .int .i64 0, .int .i64 0, .int .i64 0, .int .i64 0, .int .i64 0, .slice none 0 0, .int .i64 0, .int .i64 0, .bool false, .int .i64 0, .int .i64 0, .string ⟨#[]⟩, .slice none 0 0, .int .i64 0] 40)) := row_on HZ4.out hbc
  have HB5 : Hid (Below w.heap.size w w5) := bel_on (Nat.le_refl _) HB4.out hbc
  have i5 := box3i_cells HI5.out
  clear hbc HD4 HG4 HU4 HX4 HI4 HZ4 HB4 i4
  go_wp2_with fail
  refine (inokI x.i.b x.K x.L true HIN.out _).mono ?_
  rintro e w6 ⟨rfl, hbc⟩
  have HD6 : Hid (w6.heap[k]? = some (.cells #[.int .i64 p.s, .int .i64 p.n, .int .i64 p.d, .int .i64 p.r, .int .i64 p.l, .int .i64 p.b, .int .i64 p.g, .int .i64 p.k, .slice (some ⟨g1, 0, none⟩) n n, .int .i64 al, .int .i64 m.a, .bool m.b, .int .i64 m.n, .int .i64 m.d, .string ⟨m.s.toArray⟩, .slice (some ⟨g3, 0, none⟩) tn tn, .int .i64 rf] 85)) := row_on HD5.out hbc
  have HG6 : Hid (G.OwnN w6 (w.heap.size + 3) g1 n n l) := HG5.out.on hbc
  have HU6 : Hid (OwnU w6 (w.heap.size + 3) g3 tn tn t) := HU5.out.on hbc
  have HI6 : Hid (w6.heap[w.heap.size + 1]? = some (.cells #[.int .i64 x.i.b, .string x.K, .string x.L] 44)) := row_on HI5.out hbc
  have HZ6 : Hid (w6.heap[w.heap.size + 1 + 1]? = some (.cells #[.int .i64 0, .int .i64 0, .int .i64 0, .int .i64 0, .int .i64 0, .int .i64 0, .int .i64 0, .int .i64 0, .slice none 0 0, .int .i64 0, .int .i64 0, .bool false, .int .i64 0, .int .i64 0, .string ⟨#[]⟩, .slice none 0 0, .int .i64 0] 40)) := row_on HZ5.out hbc
  have HB6 : Hid (Below w.heap.size w w6) := bel_on (Nat.le_refl _) HB5.out hbc
  have i6 := box3i_cells HI6.out
  clear hbc HD5 HG5 HU5 HI5 HZ5 HB5 i5
  go_wp2_with fail
  refine (tickI k (w.heap.size + 3) p l al m t rf g1 n n g3 tn tn x HXO.out HOK.out (by omega) hrf hk3 p2 l2 al2 m2 t2 rf2 HTK.out _ (Q.tab_below HTB.out HB6.out) HD6.out HG6.out HU6.out).mono ?_
  rintro e w7 ⟨rfl, g2, n2, c2, gt2, tn2, ct2, hX, hG, hU, hbc⟩
  have HD7 : Hid (w7.heap[k]? = some (.cells #[.int .i64 p2.s, .int .i64 p2.n, .int .i64 p2.d, .int .i64 p2.r, .int .i64 p2.l, .int .i64 p2.b, .int .i64 p2.g, .int .i64 p2.k, .slice (some ⟨g2, 0, none⟩) n2 c2, .int .i64 al2, .int .i64 m2.a, .bool m2.b, .int .i64 m2.n, .int .i64 m2.d, .string ⟨m2.s.toArray⟩, .slice (some ⟨gt2, 0, none⟩) tn2 ct2, .int .i64 rf2] 85)) := hX
  have HG7 : Hid (G.OwnN w7 (w.heap.size + 3) g2 n2 c2 l2) := hG
  have HU7 : Hid (OwnU w7 (w.heap.size + 3) gt2 tn2 ct2 t2) := hU
  have HZ7 : Hid (w7.heap[w.heap.size + 1 + 1]? = some (.cells #[.int .i64 0, .int .i64 0, .int .i64 0, .int .i64 0, .int .i64 0, .int .i64 0, .int .i64 0, .int .i64 0, .slice none 0 0, .int .i64 0, .int .i64 0, .bool false, .int .i64 0, .int .i64 0, .string ⟨#[]⟩, .slice none 0 0, .int .i64 0] 40)) := (hbc.block _ (by omega)).trans HZ6.out
  have HB7 : Hid (Below w.heap.size w w7) := HB6.out.trans (hbc.mono (by omega))
  clear hX hG hU hbc HD6 HG6 HU6 HI6 HZ6 HB6 i6
  go_wp2_with fail
  refine (toldI k p2 g2 n2 c2 al2 m2 gt2 tn2 ct2 rf2 _ HD7.out).mono ?_
  rintro e w8 ⟨rfl, hbc⟩
  have HG8 : Hid (G.OwnN w8 (w.heap.size + 3) g2 n2 c2 l2) := HG7.out.on hbc
  have HU8 : Hid (OwnU w8 (w.heap.size + 3) gt2 tn2 ct2 t2) := HU7.out.on hbc
  have HZ8 : Hid (w8.heap[w.heap.size + 1 + 1]? = some (.cells #[.int .i64 0, .int .i64 0, .int .i64 0, .int .i64 0, .int .i64 0, .int .i64 0, .int .i64 0, .int .i64 0, .slice none 0 0, .int .i64 0, .int .i64 0, .bool false, .int .i64 0, .int .i64 0, .string ⟨#[]⟩, .slice none 0 0, .int .i64 0] 40)) := row_on HZ7.out hbc
  have HB8 : Hid (Below w.heap.size w w8) := bel_on (Nat.le_refl _) HB7.out hbc
  clear hbc HD7 HG7 HU7 HZ7 HB7
  go_wp2_with (refine listStoreD rfl rfl _ _ _ rfl rfl (w.heap.size + 1 + 1) #[.int .i64 p2.s, .int .i64 p2.n, .int .i64 p2.d, .int .i64 p2.r, .int .i64 p2.l, .int .i64 p2.b, .int .i64 p2.g, .int .i64 p2.k, .slice (some ⟨g2, 0, none⟩) n2 c2, .int .i64 al2, .int .i64 m2.a, .bool m2.b, .int .i64 m2.n, .int .i64 m2.d, .string ⟨m2.s.toArray⟩, .slice (some ⟨gt2, 0, none⟩) tn2 ct2, .int .i64 rf2] rfl rfl rfl (by kernel_rfl) HZ8.out rfl ?_)
  intro w9 hput
  have HZ9 : Hid (w9.heap[w.heap.size + 1 + 1]? = some (.cells #[.int .i64 p2.s, .int .i64 p2.n, .int .i64 p2.d, .int .i64 p2.r, .int .i64 p2.l, .int .i64 p2.b, .int .i64 p2.g, .int .i64 p2.k, .slice (some ⟨g2, 0, none⟩) n2 c2, .int .i64 al2, .int .i64 m2.a, .bool m2.b, .int .i64 m2.n, .int .i64 m2.d, .string ⟨m2.s.toArray⟩, .slice (some ⟨gt2, 0, none⟩) tn2 ct2, .int .i64 rf2] 40)) := hput.1
  have HG9 : Hid (G.OwnN w9 w.heap.size g2 n2 c2 l2) := own_mono (own_putM HG8.out hput (own_ne HG8.out HZ8.out (by decide))) (by omega)
  have HU9 : Hid (OwnU w9 w.heap.size gt2 tn2 ct2 t2) := own_mono (own_putM HU8.out hput (own_ne HU8.out HZ8.out (by decide))) (by omega)
  have HB9 : Hid (Below w.heap.size w w9) := hput.2.2.2 _ _ (by omega) HB8.out
  clear hput HZ8 HG8 HU8 HB8
  go_wp2
  refine bodyPost_ret (v := .agg #[.int .i64 p2.s, .int .i64 p2.n, .int .i64 p2.d, .int .i64 p2.r, .int .i64 p2.l, .int .i64 p2.b, .int .i64 p2.g, .int .i64 p2.k, .slice (some ⟨g2, 0, none⟩) n2 c2, .int .i64 al2, .int .i64 m2.a, .bool m2.b, .int .i64 m2.n, .int .i64 m2.d, .string ⟨m2.s.toArray⟩, .slice (some ⟨gt2, 0, none⟩) tn2 ct2, .int .i64 rf2]) (results_cell_row Tryd.results9 _ _ (w.heap.size + 1 + 1) _ _ _ _ rfl HZ9.out Tryd.underlying40 rfl (by kernel_rfl)) rfl ⟨g2, n2, c2, gt2, tn2, ct2, rfl, HG9.out, HU9.out, HB9.out⟩
end Go.Proofs.YtbcegpncledolaaDoor

namespace Go.Proofs.YtbcegpncledolaaDoor
open Go.RowKit Go.PlainAid
set_option linter.unusedVariables false

theorem sigil_list (s : ByteArray) : (Q.sigil s).data.toList = Q.fourB (Q.crc 4294967295 s.data.toList) := by simp [Q.sigil]
theorem turn_lists {S S' l m : List UInt8} {c d : UInt8} (hS : S ++ Q.fourB (Q.crc 4294967295 S) = l ++ c :: m) (hS' : S' ++ Q.fourB (Q.crc 4294967295 S') = l ++ d :: m) : c = d := by
  have e1 := congrArg List.length hS
  have e2 := congrArg List.length hS'
  rw [List.length_append, Q.fourB_len, List.length_append, List.length_cons] at e1 e2
  have hl : S.length = S'.length := by omega
  have t1 := congrArg (List.take S.length) hS
  have t2 := congrArg (List.take S.length) hS'
  have d1 := congrArg (List.drop S.length) hS
  have d2 := congrArg (List.drop S.length) hS'
  rw [List.take_left] at t1
  rw [hl, List.take_left] at t2
  rw [List.drop_left] at d1
  rw [hl, List.drop_left] at d2
  rw [← hl] at t2 d2
  by_cases hc : l.length < S.length
  · obtain ⟨q, hq⟩ : ∃ q, S.length = l.length + (q + 1) := ⟨S.length - l.length - 1, by omega⟩
    have a1 : (l ++ c :: m).take S.length = l ++ c :: m.take q := by rw [hq, List.take_length_add_append, List.take_succ_cons]
    have a2 : (l ++ d :: m).take S.length = l ++ d :: m.take q := by rw [hq, List.take_length_add_append, List.take_succ_cons]
    have b1 : (l ++ c :: m).drop S.length = m.drop q := by rw [hq, List.drop_length_add_append, List.drop_succ_cons]
    have b2 : (l ++ d :: m).drop S.length = m.drop q := by rw [hq, List.drop_length_add_append, List.drop_succ_cons]
    rw [a1] at t1
    rw [a2] at t2
    rw [b1] at d1
    rw [b2] at d2
    have e := Q.fourB_inj (Q.crc_lt (by omega) _) (Q.crc_lt (by omega) _) (d1.trans d2.symm)
    rw [t1, t2] at e
    exact Q.crc_turned (by omega) _ _ _ _ e
  · have a1 : (l ++ c :: m).take S.length = l.take S.length := by rw [List.take_append_of_le_length (by omega)]
    have a2 : (l ++ d :: m).take S.length = l.take S.length := by rw [List.take_append_of_le_length (by omega)]
    rw [a1] at t1
    rw [a2] at t2
    have e : S = S' := t1.trans t2.symm
    rw [e] at hS
    have := List.append_cancel_left (hS.symm.trans hS')
    exact (List.cons.inj this).1
theorem turned_none {t t' s : ByteArray} {l m : List UInt8} {c d : UInt8} (hU : Q.unsealed t = some s) (ht : t.data.toList = l ++ c :: m) (ht' : t'.data.toList = l ++ d :: m) (hne : c ≠ d) : Q.unsealed t' = none := by
  rcases h : Q.unsealed t' with _ | s'
  · rfl
  · have h1 := (uns_some hU).1
    have h2 := (uns_some h).1
    have e1 : s.data.toList ++ Q.fourB (Q.crc 4294967295 s.data.toList) = l ++ c :: m := by rw [← sigil_list, ← ht, h1]; simp [ByteArray.data_append]
    have e2 : s'.data.toList ++ Q.fourB (Q.crc 4294967295 s'.data.toList) = l ++ d :: m := by rw [← sigil_list, ← ht', h2]; simp [ByteArray.data_append]
    exact absurd (turn_lists e1 e2) hne
/-- the bytes of an order, one of them another, are those of none -/
theorem turned_rd {k n d v : Int} {t' : ByteArray} {l m : List UInt8} {c e : UInt8} (hR : OrdR k n d v) (ht : (ordT k n d v).data.toList = l ++ c :: m) (ht' : t'.data.toList = l ++ e :: m) (hne : c ≠ e) {k' n' d' v' : Int} {b : Bool} (h : RdOr t' k' n' d' v' b) : b = false := by
  rcases h with ⟨h1, h2, _⟩ | ⟨_, hb, _⟩
  · have e1 := uns_ord h1 h2
    rw [turned_none (uns_ord hR rfl) ht ht' hne] at e1
    cases e1
  · exact hb
end Go.Proofs.YtbcegpncledolaaDoor
