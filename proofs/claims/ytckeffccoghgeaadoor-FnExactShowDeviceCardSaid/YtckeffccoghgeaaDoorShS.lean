/-
  ShowDevice of the specification.
-/
import Derived.Test.YtckeffccoghgeaaDoorShM
import Derived.Deep.DeepHandedRow
namespace Go.Proofs.YtckeffccoghgeaaDoor
open Go.ChangeShapes Go.WideShapes Go.ChangeAt Go.RowKit Go.Deep Go.PlainAid
open Go.Lib (decDigits itoa)
set_option linter.unusedVariables false
set_option linter.unusedSimpArgs false

set_option maxRecDepth 100000 in
set_option maxHeartbeats 4000000 in
theorem showS (p : Pm) (a : Option Addr) (n cap : Nat) (l : List Int) (al : Int) (m : Mn) (ta : Option Addr) (tn tc : Nat) (rf : Int) (P Gk Mk : Bool) (hP : P = true ↔ p.ok) (hG : Gk = true ↔ G.GdR l al) (hM : okM m = Mk) (B : Bool) (hB : devB P Gk Mk tn rf = B) (hl : l.length = n) (hn : n ≤ 9223372036854775807) (ht : tn ≤ 9223372036854775807) (w : World) (hr : G.Rd w a l) :
    Calls Tryd.prog 5 #[.agg #[.int .i64 p.s, .int .i64 p.n, .int .i64 p.d, .int .i64 p.r, .int .i64 p.l, .int .i64 p.b, .int .i64 p.g, .int .i64 p.k, .slice a n cap, .int .i64 al, .int .i64 m.a, .bool m.b, .int .i64 m.n, .int .i64 m.d, .string ⟨m.s.toArray⟩, .slice ta tn tc, .int .i64 rf]] w fun e w' => e = .returned (.string (shB B p al)) ∧ Below w.heap.size w w' := by
  have HR : Hid (G.Rd w a l) := hr
  obtain ⟨W, hW⟩ : ∃ W, w.alloc (.cells #[.int .i64 p.s, .int .i64 p.n, .int .i64 p.d, .int .i64 p.r, .int .i64 p.l, .int .i64 p.b, .int .i64 p.g, .int .i64 p.k, .slice a n cap, .int .i64 al, .int .i64 m.a, .bool m.b, .int .i64 m.n, .int .i64 m.d, .string ⟨m.s.toArray⟩, .slice ta tn tc, .int .i64 rf] 43) = W := ⟨_, rfl⟩
  have HB0 : Hid (Below w.heap.size w W) := by rw [← hW]; exact alM _ _
  have HX0 : Hid (W.heap[w.heap.size]? = some (.cells #[.int .i64 p.s, .int .i64 p.n, .int .i64 p.d, .int .i64 p.r, .int .i64 p.l, .int .i64 p.b, .int .i64 p.g, .int .i64 p.k, .slice a n cap, .int .i64 al, .int .i64 m.a, .bool m.b, .int .i64 m.n, .int .i64 m.d, .string ⟨m.s.toArray⟩, .slice ta tn tc, .int .i64 rf] 43)) := by rw [← hW]; exact heap_new w _
  have HR0 : Hid (G.Rd W a l) := HR.out.keep HB0.out (Nat.le_refl _)
  clear hr HR
  go_enter Tryd.func5, Tryd.ntmps5
  go_upto_region 1 with fail
  (try rw [hW])
  clear hW
  go_wp2_with (refine wpList_load_row rfl _ _ rfl w.heap.size rfl _ _ _ _ HX0.out Tryd.underlying43 rfl (by kernel_rfl) ?_)
  refine (deviceokS p a n cap l al m ta tn tc rf P Gk Mk hP hG hM B hB hl hn ht _ HR0.out).mono ?_
  rintro e W1 ⟨rfl, hbc⟩
  have HX1 : Hid (W1.heap[w.heap.size]? = some (.cells #[.int .i64 p.s, .int .i64 p.n, .int .i64 p.d, .int .i64 p.r, .int .i64 p.l, .int .i64 p.b, .int .i64 p.g, .int .i64 p.k, .slice a n cap, .int .i64 al, .int .i64 m.a, .bool m.b, .int .i64 m.n, .int .i64 m.d, .string ⟨m.s.toArray⟩, .slice ta tn tc, .int .i64 rf] 43)) := row_on HX0.out hbc
  have HB1 : Hid (Below w.heap.size w W1) := bel_on (Nat.le_refl _) HB0.out hbc
  clear hbc HX0 HB0 HR0
  cases B
  · clear hP hG hM hB hl
    go_wp2
    go_ret
    exact ⟨rfl, HB1.out⟩
  obtain ⟨⟨ps0, ps1⟩, ⟨pg0, pg1⟩, pl0, pl1⟩ := dev_parts (l := l) (al := al) hP hB
  clear hP hG hM hB hl
  have hx1 := decT_size _ ps0 ps1
  have hx2 := decT_size _ pg0 pg1
  have hx3 := decT_size _ pl0 pl1
  have hx4 := name_size al
  have HE : Hid (shB true p al = shT (decT p.s) (decT p.g) (decT p.l) (J.nameN al)) := shB_yes p al
  have HT1 : Hid (decT p.s = ⟨(itoa p.s).toArray⟩) := rfl
  have HT2 : Hid (decT p.g = ⟨(itoa p.g).toArray⟩) := rfl
  have HT3 : Hid (decT p.l = ⟨(itoa p.l).toArray⟩) := rfl
  obtain ⟨x1, hX1⟩ : ∃ x, decT p.s = x := ⟨_, rfl⟩
  obtain ⟨x2, hX2⟩ : ∃ x, decT p.g = x := ⟨_, rfl⟩
  obtain ⟨x3, hX3⟩ : ∃ x, decT p.l = x := ⟨_, rfl⟩
  obtain ⟨x4, hX4⟩ : ∃ x, J.nameN al = x := ⟨_, rfl⟩
  have HX4' : Hid (J.nameN al = x4) := hX4
  rw [hX1] at HE HT1 hx1
  rw [hX2] at HE HT2 hx2
  rw [hX3] at HE HT3 hx3
  rw [hX4] at HE hx4
  clear hX1 hX2 hX3 hX4
  obtain ⟨y1, hy1⟩ : ∃ y, ⟨#[115, 116, 97, 116, 101, 32]⟩ ++ x1 = y := ⟨_, rfl⟩
  obtain ⟨y2, hy2⟩ : ∃ y, y1 ++ ⟨#[32, 103, 105, 118, 101, 110, 32]⟩ = y := ⟨_, rfl⟩
  obtain ⟨y3, hy3⟩ : ∃ y, y2 ++ x2 = y := ⟨_, rfl⟩
  obtain ⟨y4, hy4⟩ : ∃ y, y3 ++ ⟨#[32, 108, 101, 102, 116, 32]⟩ = y := ⟨_, rfl⟩
  obtain ⟨y5, hy5⟩ : ∃ y, y4 ++ x3 = y := ⟨_, rfl⟩
  obtain ⟨y6, hy6⟩ : ∃ y, y5 ++ ⟨#[32, 97, 108, 97, 114, 109, 32]⟩ = y := ⟨_, rfl⟩
  obtain ⟨y7, hy7⟩ : ∃ y, y6 ++ x4 = y := ⟨_, rfl⟩
  obtain ⟨y8, hy8⟩ : ∃ y, y7 ++ ⟨#[10]⟩ = y := ⟨_, rfl⟩
  have HF : Hid (shB true p al = y8) := by show _ = _; rw [HE.out, ← hy8, ← hy7, ← hy6, ← hy5, ← hy4, ← hy3, ← hy2, ← hy1]; rfl
  have z1 : y1.size = 6 + x1.size := by rw [← hy1, ByteArray.size_append]; rfl
  have z2 : y2.size = y1.size + 7 := by rw [← hy2, ByteArray.size_append]; rfl
  have z3 : y3.size = y2.size + x2.size := by rw [← hy3, ByteArray.size_append]
  have z4 : y4.size = y3.size + 6 := by rw [← hy4, ByteArray.size_append]; rfl
  have z5 : y5.size = y4.size + x3.size := by rw [← hy5, ByteArray.size_append]
  have z6 : y6.size = y5.size + 7 := by rw [← hy6, ByteArray.size_append]; rfl
  have z7 : y7.size = y6.size + x4.size := by rw [← hy7, ByteArray.size_append]
  go_upto_region 3 with fail
  have HK0 : W1.drew.heap[w.heap.size]? = some (.cells #[.int .i64 p.s, .int .i64 p.n, .int .i64 p.d, .int .i64 p.r, .int .i64 p.l, .int .i64 p.b, .int .i64 p.g, .int .i64 p.k, .slice a n cap, .int .i64 al, .int .i64 m.a, .bool m.b, .int .i64 m.n, .int .i64 m.d, .string ⟨m.s.toArray⟩, .slice ta tn tc, .int .i64 rf] 43) := HX1.out
  have HB2 : Hid (Below w.heap.size w W1.drew) := bel_on (Nat.le_refl _) HB1.out (Below.refl _ _).drew
  refine wp_region_held_drew (S := fun w' => w'.heap[w.heap.size]? = some (.cells #[.int .i64 p.s, .int .i64 p.n, .int .i64 p.d, .int .i64 p.r, .int .i64 p.l, .int .i64 p.b, .int .i64 p.g, .int .i64 p.k, .slice a n cap, .int .i64 al, .int .i64 m.a, .bool m.b, .int .i64 m.n, .int .i64 m.d, .string ⟨m.s.toArray⟩, .slice ta tn tc, .int .i64 rf] 43)) (by kernel_rfl) HK0 (fun hHeld => ?_)
  obtain ⟨v0, hv0⟩ : ∃ v0, W1.drew = v0 := ⟨_, rfl⟩
  rw [hv0] at HK0 HB2 hHeld ⊢
  have HB0 : Hid (Below w.heap.size w v0) := HB2
  clear hv0 HB2 HX1 HB1
  refine wpAnyH_take (i := 0) rfl (by kernel_rfl) (by kernel_rfl) (by kernel_rfl) (fun _ _ _ h => h) (Or.inl ⟨by rfl, fun w_ hSw => by clear hSw; go_simp <;> with_reducible rfl⟩) (by assumption) ?_
  try simp only [Act.put, List.setIfInBounds_toArray, List.set_cons_zero, List.set_cons_succ, List.getElem_toArray, List.getElem_cons_zero, List.getElem_cons_succ]
  refine wpAnyH_take (i := 1) rfl (by kernel_rfl) (by kernel_rfl) (by kernel_rfl) (fun _ _ _ h => h) (Or.inl ⟨by rfl, fun w_ hSw => by clear hSw; go_simp <;> with_reducible rfl⟩) (by assumption) ?_
  try simp only [Act.put, List.setIfInBounds_toArray, List.set_cons_zero, List.set_cons_succ, List.getElem_toArray, List.getElem_cons_zero, List.getElem_cons_succ]
  refine wpAnyH_take (i := 2) rfl (by kernel_rfl) (by kernel_rfl) (by kernel_rfl) (fun _ _ _ h => h) (Or.inl ⟨by rfl, fun w_ hSw => by have f0 := box17_cells hSw; clear hSw; go_simp <;> with_reducible rfl⟩) (by assumption) ?_
  try simp only [Act.put, List.setIfInBounds_toArray, List.set_cons_zero, List.set_cons_succ, List.getElem_toArray, List.getElem_cons_zero, List.getElem_cons_succ]
  refine wpAnyH_take (i := 6) rfl (by kernel_rfl) (by kernel_rfl) (by kernel_rfl) (fun _ _ _ h => h) (Or.inl ⟨by rfl, fun w_ hSw => by clear hSw; go_simp <;> with_reducible rfl⟩) (by assumption) ?_
  try simp only [Act.put, List.setIfInBounds_toArray, List.set_cons_zero, List.set_cons_succ, List.getElem_toArray, List.getElem_cons_zero, List.getElem_cons_succ]
  refine wpAnyH_take (i := 7) rfl (by kernel_rfl) (by kernel_rfl) (by kernel_rfl) (fun _ _ _ h => h) (Or.inl ⟨by rfl, fun w_ hSw => by clear hSw; go_simp <;> with_reducible rfl⟩) (by assumption) ?_
  try simp only [Act.put, List.setIfInBounds_toArray, List.set_cons_zero, List.set_cons_succ, List.getElem_toArray, List.getElem_cons_zero, List.getElem_cons_succ]
  refine wpAnyH_take (i := 8) rfl (by kernel_rfl) (by kernel_rfl) (by kernel_rfl) (fun _ _ _ h => h) (Or.inl ⟨by rfl, fun w_ hSw => by have f0 := box17_cells hSw; clear hSw; go_simp <;> with_reducible rfl⟩) (by assumption) ?_
  try simp only [Act.put, List.setIfInBounds_toArray, List.set_cons_zero, List.set_cons_succ, List.getElem_toArray, List.getElem_cons_zero, List.getElem_cons_succ]
  refine wpAnyH_take (i := 12) rfl (by kernel_rfl) (by kernel_rfl) (by kernel_rfl) (fun _ _ _ h => h) (Or.inl ⟨by rfl, fun w_ hSw => by clear hSw; go_simp <;> with_reducible rfl⟩) (by assumption) ?_
  try simp only [Act.put, List.setIfInBounds_toArray, List.set_cons_zero, List.set_cons_succ, List.getElem_toArray, List.getElem_cons_zero, List.getElem_cons_succ]
  refine wpAnyH_take (i := 13) rfl (by kernel_rfl) (by kernel_rfl) (by kernel_rfl) (fun _ _ _ h => h) (Or.inl ⟨by rfl, fun w_ hSw => by clear hSw; go_simp <;> with_reducible rfl⟩) (by assumption) ?_
  try simp only [Act.put, List.setIfInBounds_toArray, List.set_cons_zero, List.set_cons_succ, List.getElem_toArray, List.getElem_cons_zero, List.getElem_cons_succ]
  refine wpAnyH_take (i := 14) rfl (by kernel_rfl) (by kernel_rfl) (by kernel_rfl) (fun _ _ _ h => h) (Or.inl ⟨by rfl, fun w_ hSw => by have f0 := box17_cells hSw; clear hSw; go_simp <;> with_reducible rfl⟩) (by assumption) ?_
  try simp only [Act.put, List.setIfInBounds_toArray, List.set_cons_zero, List.set_cons_succ, List.getElem_toArray, List.getElem_cons_zero, List.getElem_cons_succ]
  refine wpAnyH_take (i := 18) rfl (by kernel_rfl) (by kernel_rfl) (by kernel_rfl) (fun _ _ _ h => h) (Or.inl ⟨by rfl, fun w_ hSw => by clear hSw; go_simp <;> with_reducible rfl⟩) (by assumption) ?_
  try simp only [Act.put, List.setIfInBounds_toArray, List.set_cons_zero, List.set_cons_succ, List.getElem_toArray, List.getElem_cons_zero, List.getElem_cons_succ]
  refine wpAnyH_take (i := 19) rfl (by kernel_rfl) (by kernel_rfl) (by kernel_rfl) (fun _ _ _ h => h) (Or.inl ⟨by rfl, fun w_ hSw => by clear hSw; go_simp <;> with_reducible rfl⟩) (by assumption) ?_
  try simp only [Act.put, List.setIfInBounds_toArray, List.set_cons_zero, List.set_cons_succ, List.getElem_toArray, List.getElem_cons_zero, List.getElem_cons_succ]
  refine wpAnyH_take (i := 20) rfl (by kernel_rfl) (by kernel_rfl) (by kernel_rfl) (fun _ _ _ h => h) (Or.inl ⟨by rfl, fun w_ hSw => by have f0 := box17_cells hSw; clear hSw; go_simp <;> with_reducible rfl⟩) (by assumption) ?_
  try simp only [Act.put, List.setIfInBounds_toArray, List.set_cons_zero, List.set_cons_succ, List.getElem_toArray, List.getElem_cons_zero, List.getElem_cons_succ]
  refine wpAnyH_ready (rs := [3]) (by kernel_rfl) (by simp) ?_
  refine (AllReadyH.cons rfl (fun Jx hJ => ?_) AllReadyH.nil)
  go_simp
  go_at_call 13
  refine (J.dec5 p.s (by omega) (by omega) _).mono ?_
  rintro e v1 ⟨rfl, hbc⟩
  have HK1 : v1.heap[w.heap.size]? = some (.cells #[.int .i64 p.s, .int .i64 p.n, .int .i64 p.d, .int .i64 p.r, .int .i64 p.l, .int .i64 p.b, .int .i64 p.g, .int .i64 p.k, .slice a n cap, .int .i64 al, .int .i64 m.a, .bool m.b, .int .i64 m.n, .int .i64 m.d, .string ⟨m.s.toArray⟩, .slice ta tn tc, .int .i64 rf] 43) := row_on HK0 hbc
  have HB1 : Hid (Below w.heap.size w v1) := bel_on (Nat.le_refl _) HB0.out hbc
  clear hbc HK0 HB0
  go_wp2_with fail
  refine hJ.out _ _ HK1 (fun hHeld => ?_)
  clear hJ Jx
  try simp only [Act.put, List.setIfInBounds_toArray, List.set_cons_zero, List.set_cons_succ, List.getElem_toArray, List.getElem_cons_zero, List.getElem_cons_succ]
  rw [← HT1.out]
  refine wpAnyH_take (i := 4) (v := .string y1) rfl (by kernel_rfl) (by kernel_rfl) (by kernel_rfl) (fun _ _ _ h => h) (Or.inl ⟨by rfl, fun w_ hSw => by clear hSw; go_simp <;> first | (subst hy1; with_reducible rfl) | omega | (simp only [ByteArray.size_append]; omega)⟩) (by assumption) ?_
  try simp only [Act.put, List.setIfInBounds_toArray, List.set_cons_zero, List.set_cons_succ, List.getElem_toArray, List.getElem_cons_zero, List.getElem_cons_succ]
  refine wpAnyH_take (i := 5) (v := .string y2) rfl (by kernel_rfl) (by kernel_rfl) (by kernel_rfl) (fun _ _ _ h => h) (Or.inl ⟨by rfl, fun w_ hSw => by clear hSw; go_simp <;> first | (subst hy2; with_reducible rfl) | omega | (simp only [ByteArray.size_append]; omega)⟩) (by assumption) ?_
  try simp only [Act.put, List.setIfInBounds_toArray, List.set_cons_zero, List.set_cons_succ, List.getElem_toArray, List.getElem_cons_zero, List.getElem_cons_succ]
  refine wpAnyH_ready (rs := [9]) (by kernel_rfl) (by simp) ?_
  refine (AllReadyH.cons rfl (fun Jx hJ => ?_) AllReadyH.nil)
  go_simp
  go_at_call 13
  refine (J.dec5 p.g (by omega) (by omega) _).mono ?_
  rintro e v2 ⟨rfl, hbc⟩
  have HK2 : v2.heap[w.heap.size]? = some (.cells #[.int .i64 p.s, .int .i64 p.n, .int .i64 p.d, .int .i64 p.r, .int .i64 p.l, .int .i64 p.b, .int .i64 p.g, .int .i64 p.k, .slice a n cap, .int .i64 al, .int .i64 m.a, .bool m.b, .int .i64 m.n, .int .i64 m.d, .string ⟨m.s.toArray⟩, .slice ta tn tc, .int .i64 rf] 43) := row_on HK1 hbc
  have HB2 : Hid (Below w.heap.size w v2) := bel_on (Nat.le_refl _) HB1.out hbc
  clear hbc HK1 HB1
  go_wp2_with fail
  refine hJ.out _ _ HK2 (fun hHeld => ?_)
  clear hJ Jx
  try simp only [Act.put, List.setIfInBounds_toArray, List.set_cons_zero, List.set_cons_succ, List.getElem_toArray, List.getElem_cons_zero, List.getElem_cons_succ]
  rw [← HT2.out]
  refine wpAnyH_take (i := 10) (v := .string y3) rfl (by kernel_rfl) (by kernel_rfl) (by kernel_rfl) (fun _ _ _ h => h) (Or.inl ⟨by rfl, fun w_ hSw => by clear hSw; go_simp <;> first | (subst hy3; with_reducible rfl) | omega | (simp only [ByteArray.size_append]; omega)⟩) (by assumption) ?_
  try simp only [Act.put, List.setIfInBounds_toArray, List.set_cons_zero, List.set_cons_succ, List.getElem_toArray, List.getElem_cons_zero, List.getElem_cons_succ]
  refine wpAnyH_take (i := 11) (v := .string y4) rfl (by kernel_rfl) (by kernel_rfl) (by kernel_rfl) (fun _ _ _ h => h) (Or.inl ⟨by rfl, fun w_ hSw => by clear hSw; go_simp <;> first | (subst hy4; with_reducible rfl) | omega | (simp only [ByteArray.size_append]; omega)⟩) (by assumption) ?_
  try simp only [Act.put, List.setIfInBounds_toArray, List.set_cons_zero, List.set_cons_succ, List.getElem_toArray, List.getElem_cons_zero, List.getElem_cons_succ]
  refine wpAnyH_ready (rs := [15]) (by kernel_rfl) (by simp) ?_
  refine (AllReadyH.cons rfl (fun Jx hJ => ?_) AllReadyH.nil)
  go_simp
  go_at_call 13
  refine (J.dec5 p.l (by omega) (by omega) _).mono ?_
  rintro e v3 ⟨rfl, hbc⟩
  have HK3 : v3.heap[w.heap.size]? = some (.cells #[.int .i64 p.s, .int .i64 p.n, .int .i64 p.d, .int .i64 p.r, .int .i64 p.l, .int .i64 p.b, .int .i64 p.g, .int .i64 p.k, .slice a n cap, .int .i64 al, .int .i64 m.a, .bool m.b, .int .i64 m.n, .int .i64 m.d, .string ⟨m.s.toArray⟩, .slice ta tn tc, .int .i64 rf] 43) := row_on HK2 hbc
  have HB3 : Hid (Below w.heap.size w v3) := bel_on (Nat.le_refl _) HB2.out hbc
  clear hbc HK2 HB2
  go_wp2_with fail
  refine hJ.out _ _ HK3 (fun hHeld => ?_)
  clear hJ Jx
  try simp only [Act.put, List.setIfInBounds_toArray, List.set_cons_zero, List.set_cons_succ, List.getElem_toArray, List.getElem_cons_zero, List.getElem_cons_succ]
  rw [← HT3.out]
  refine wpAnyH_take (i := 16) (v := .string y5) rfl (by kernel_rfl) (by kernel_rfl) (by kernel_rfl) (fun _ _ _ h => h) (Or.inl ⟨by rfl, fun w_ hSw => by clear hSw; go_simp <;> first | (subst hy5; with_reducible rfl) | omega | (simp only [ByteArray.size_append]; omega)⟩) (by assumption) ?_
  try simp only [Act.put, List.setIfInBounds_toArray, List.set_cons_zero, List.set_cons_succ, List.getElem_toArray, List.getElem_cons_zero, List.getElem_cons_succ]
  refine wpAnyH_take (i := 17) (v := .string y6) rfl (by kernel_rfl) (by kernel_rfl) (by kernel_rfl) (fun _ _ _ h => h) (Or.inl ⟨by rfl, fun w_ hSw => by clear hSw; go_simp <;> first | (subst hy6; with_reducible rfl) | omega | (simp only [ByteArray.size_append]; omega)⟩) (by assumption) ?_
  try simp only [Act.put, List.setIfInBounds_toArray, List.set_cons_zero, List.set_cons_succ, List.getElem_toArray, List.getElem_cons_zero, List.getElem_cons_succ]
  refine wpAnyH_ready (rs := [21]) (by kernel_rfl) (by simp) ?_
  refine (AllReadyH.cons rfl (fun Jx hJ => ?_) AllReadyH.nil)
  go_simp
  go_at_call 14
  refine (J.sNamesS al _).mono ?_
  rintro e v4 ⟨rfl, hbc⟩
  have HK4 : v4.heap[w.heap.size]? = some (.cells #[.int .i64 p.s, .int .i64 p.n, .int .i64 p.d, .int .i64 p.r, .int .i64 p.l, .int .i64 p.b, .int .i64 p.g, .int .i64 p.k, .slice a n cap, .int .i64 al, .int .i64 m.a, .bool m.b, .int .i64 m.n, .int .i64 m.d, .string ⟨m.s.toArray⟩, .slice ta tn tc, .int .i64 rf] 43) := row_on HK3 hbc
  have HB4 : Hid (Below w.heap.size w v4) := bel_on (Nat.le_refl _) HB3.out hbc
  clear hbc HK3 HB3
  go_wp2_with fail
  refine hJ.out _ _ HK4 (fun hHeld => ?_)
  clear hJ Jx
  try simp only [Act.put, List.setIfInBounds_toArray, List.set_cons_zero, List.set_cons_succ, List.getElem_toArray, List.getElem_cons_zero, List.getElem_cons_succ]
  rw [HX4'.out]
  refine wpAnyH_take (i := 22) (v := .string y7) rfl (by kernel_rfl) (by kernel_rfl) (by kernel_rfl) (fun _ _ _ h => h) (Or.inl ⟨by rfl, fun w_ hSw => by clear hSw; go_simp <;> first | (subst hy7; with_reducible rfl) | omega | (simp only [ByteArray.size_append]; omega)⟩) (by assumption) ?_
  try simp only [Act.put, List.setIfInBounds_toArray, List.set_cons_zero, List.set_cons_succ, List.getElem_toArray, List.getElem_cons_zero, List.getElem_cons_succ]
  refine wpAnyH_take (i := 23) (v := .string y8) rfl (by kernel_rfl) (by kernel_rfl) (by kernel_rfl) (fun _ _ _ h => h) (Or.inl ⟨by rfl, fun w_ hSw => by clear hSw; go_simp <;> first | (subst hy8; with_reducible rfl) | omega | (simp only [ByteArray.size_append]; omega)⟩) (by assumption) ?_
  try simp only [Act.put, List.setIfInBounds_toArray, List.set_cons_zero, List.set_cons_succ, List.getElem_toArray, List.getElem_cons_zero, List.getElem_cons_succ]
  refine wpAnyH_take (i := 24) rfl (by kernel_rfl) (by kernel_rfl) (by kernel_rfl) (fun _ _ _ h => h) (Or.inl ⟨by rfl, fun w_ hSw => by clear hSw; go_simp <;> with_reducible rfl⟩) (by assumption) ?_
  try simp only [Act.put, List.setIfInBounds_toArray, List.set_cons_zero, List.set_cons_succ, List.getElem_toArray, List.getElem_cons_zero, List.getElem_cons_succ]
  refine wpAnyH_done (by kernel_rfl) ?_ _
  go_wp2
  go_ret
  exact ⟨by rw [HF.out]; rfl, HB4.out⟩
end Go.Proofs.YtckeffccoghgeaaDoor
