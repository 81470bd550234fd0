/-
  ShowDevice of the program.
-/
import Derived.Test.YtckeffccoghgeaaDoorShM
import Derived.Test.YtckeffccoghgeaaDoorDvI
import Derived.Test.YtckeffccoghgeaaDoorJL
import Derived.Deep.DeepHandedRow
import Derived.Lib.Join
namespace Go.Proofs.YtckeffccoghgeaaDoor
open Go.ChangeShapes Go.WideShapes Go.ChangeAt Go.RowKit Go.Deep Go.PlainAid
open Go.Lib (decDigits itoa)
set_option linter.unusedVariables false
set_option linter.unusedSimpArgs false

theorem join8 (x1 x2 x3 x4 : ByteArray) : (⟨(Lib.join (([⟨#[115, 116, 97, 116, 101]⟩, x1, ⟨#[103, 105, 118, 101, 110]⟩, x2, ⟨#[108, 101, 102, 116]⟩, x3, ⟨#[97, 108, 97, 114, 109]⟩, x4] : List ByteArray).map (·.data.toList)) [32]).toArray⟩ ++ ⟨#[10]⟩ : ByteArray) = shT x1 x2 x3 x4 := by
  apply ByteArray.ext
  apply Array.toList_inj.1
  unfold shT
  simp [Lib.join, List.intercalate]
theorem join8_len (x1 x2 x3 x4 : ByteArray) (h1 : x1.size ≤ 20) (h2 : x2.size ≤ 20) (h3 : x3.size ≤ 20) (h4 : x4.size ≤ 20) : (Lib.join (([⟨#[115, 116, 97, 116, 101]⟩, x1, ⟨#[103, 105, 118, 101, 110]⟩, x2, ⟨#[108, 101, 102, 116]⟩, x3, ⟨#[97, 108, 97, 114, 109]⟩, x4] : List ByteArray).map (·.data.toList)) [32]).length ≤ 200 := by
  have e1 : x1.data.toList.length = x1.size := Array.length_toList
  have e2 : x2.data.toList.length = x2.size := Array.length_toList
  have e3 : x3.data.toList.length = x3.size := Array.length_toList
  have e4 : x4.data.toList.length = x4.size := Array.length_toList
  rw [List.map_cons, Lib.join_length]
  simp only [Lib.lens, List.map_cons, List.map_nil, List.length_cons, List.length_nil, List.sum_cons, List.sum_nil, e1, e2, e3, e4]
  omega
set_option maxRecDepth 100000 in
set_option maxHeartbeats 1000000 in
theorem lineI (x1 x2 x3 x4 : ByteArray) (h1 : x1.size ≤ 20) (h2 : x2.size ≤ 20) (h3 : x3.size ≤ 20) (h4 : x4.size ≤ 20) (g : Nat) (w : World) (hrow : w.heap[g]? = some (.cells #[.string ⟨#[115, 116, 97, 116, 101]⟩, .string x1, .string ⟨#[103, 105, 118, 101, 110]⟩, .string x2, .string ⟨#[108, 101, 102, 116]⟩, .string x3, .string ⟨#[97, 108, 97, 114, 109]⟩, .string x4] 9)) :
    Calls Tryd.prog 20 #[.slice (some ⟨g, 0, none⟩) 8 8] w fun e w' => e = .returned (.string (shT x1 x2 x3 x4)) ∧ Below w.heap.size w w' := by
  have hg : g < w.heap.size := row_lt hrow
  obtain ⟨xs, hxs⟩ : ∃ xs : List ByteArray, [⟨#[115, 116, 97, 116, 101]⟩, x1, ⟨#[103, 105, 118, 101, 110]⟩, x2, ⟨#[108, 101, 102, 116]⟩, x3, ⟨#[97, 108, 97, 114, 109]⟩, x4] = xs := ⟨_, rfl⟩
  have HJ : Hid ((⟨(Lib.join (xs.map (·.data.toList)) [32]).toArray⟩ ++ ⟨#[10]⟩ : ByteArray) = shT x1 x2 x3 x4) := by rw [← hxs]; exact join8 x1 x2 x3 x4
  have HL : Hid ((Lib.join (xs.map (·.data.toList)) [32]).length ≤ 200) := by rw [← hxs]; exact join8_len x1 x2 x3 x4 h1 h2 h3 h4
  have hl : xs.length = 8 := by rw [← hxs]; rfl
  have HC : Hid (∀ (j : Nat) x, xs[j]? = some x → w.cell? ⟨g, 0 + j, none⟩ = some (.string x)) := by
    intro j x hj
    rw [Nat.zero_add, cell_of_row _ _ j _ _ _ hrow]
    rw [← hxs] at hj
    match j, hj with
    | 0, hj => simp at hj; subst hj; rfl
    | 1, hj => simp at hj; subst hj; rfl
    | 2, hj => simp at hj; subst hj; rfl
    | 3, hj => simp at hj; subst hj; rfl
    | 4, hj => simp at hj; subst hj; rfl
    | 5, hj => simp at hj; subst hj; rfl
    | 6, hj => simp at hj; subst hj; rfl
    | 7, hj => simp at hj; subst hj; rfl
    | j + 8, hj => simp at hj
  clear hrow hxs
  go_enter Tryd.func20, Tryd.ntmps20
  go_wp2_with fail
  have hjn := Tryd.strings_Join g 0 8 xs ⟨#[32]⟩ w HC.out hg (by omega) (by omega) (by have := HL.out; show (Lib.join _ [32]).length ≤ _; omega)
  rw [hl] at hjn
  refine hjn.mono ?_
  rintro e w1 ⟨rfl, hb1⟩
  clear hjn
  obtain ⟨T, hT⟩ : ∃ T, (⟨(Lib.join (xs.map (·.data.toList)) (⟨#[32]⟩ : ByteArray).data.toList).toArray⟩ : ByteArray) = T := ⟨_, rfl⟩
  have hts : T.size ≤ 200 := by rw [← hT]; show (Lib.join _ [32]).toArray.size ≤ 200; rw [List.size_toArray]; exact HL.out
  have HE : Hid (T ++ ⟨#[10]⟩ = shT x1 x2 x3 x4) := by rw [← hT]; exact HJ.out
  rw [hT]
  clear hT
  go_wp2
  go_ret
  exact ⟨by rw [← HE.out]; rfl, hb1⟩
set_option maxRecDepth 100000 in
set_option maxHeartbeats 4000000 in
theorem showI (p : Pm) (a : Option Addr) (n cap : Nat) (l : List Int) (al : Int) (m : Mn) (ta : Option Addr) (tn tc : Nat) (rf : Int) (P Gk Mk : Bool) (hP : P = true ↔ p.ok) (hG : Gk = true ↔ G.GdR l al) (hM : okM m = Mk) (B : Bool) (hB : devB P Gk Mk tn rf = B) (hl : l.length = n) (hn : n ≤ 9223372036854775807) (ht : tn ≤ 9223372036854775807) (w : World) (hr : G.Rd w a l) (hd : J.Tab w) (hs : J.TabS w) :
    Calls Tryd.prog 7 #[.agg #[.int .i64 p.s, .int .i64 p.n, .int .i64 p.d, .int .i64 p.r, .int .i64 p.l, .int .i64 p.b, .int .i64 p.g, .int .i64 p.k, .slice a n cap, .int .i64 al, .int .i64 m.a, .bool m.b, .int .i64 m.n, .int .i64 m.d, .string ⟨m.s.toArray⟩, .slice ta tn tc, .int .i64 rf]] w fun e w' => e = .returned (.string (shB B p al)) ∧ Below w.heap.size w w' := by
  have HR : Hid (G.Rd w a l) := hr
  obtain ⟨W, hW⟩ : ∃ W, w.alloc (.cells #[.int .i64 p.s, .int .i64 p.n, .int .i64 p.d, .int .i64 p.r, .int .i64 p.l, .int .i64 p.b, .int .i64 p.g, .int .i64 p.k, .slice a n cap, .int .i64 al, .int .i64 m.a, .bool m.b, .int .i64 m.n, .int .i64 m.d, .string ⟨m.s.toArray⟩, .slice ta tn tc, .int .i64 rf] 43) = W := ⟨_, rfl⟩
  have HB0 : Hid (Below w.heap.size w W) := by rw [← hW]; exact alM _ _
  have HX0 : Hid (W.heap[w.heap.size]? = some (.cells #[.int .i64 p.s, .int .i64 p.n, .int .i64 p.d, .int .i64 p.r, .int .i64 p.l, .int .i64 p.b, .int .i64 p.g, .int .i64 p.k, .slice a n cap, .int .i64 al, .int .i64 m.a, .bool m.b, .int .i64 m.n, .int .i64 m.d, .string ⟨m.s.toArray⟩, .slice ta tn tc, .int .i64 rf] 43)) := by rw [← hW]; exact heap_new w _
  have HR0 : Hid (G.Rd W a l) := HR.out.keep HB0.out (Nat.le_refl _)
  clear hr HR
  have HD0 : Hid (J.Tab w) := hd
  have HS0 : Hid (J.TabS w) := hs
  clear hd hs
  go_enter Tryd.func7, Tryd.ntmps7
  go_upto_region 1 with fail
  (try rw [hW])
  clear hW
  go_wp2_with (refine wpList_load_row rfl _ _ rfl w.heap.size rfl _ _ _ _ HX0.out Tryd.underlying43 rfl (by kernel_rfl) ?_)
  refine (deviceokI p a n cap l al m ta tn tc rf P Gk Mk hP hG hM B hB hl hn ht _ HR0.out).mono ?_
  rintro e W1 ⟨rfl, hbc⟩
  have HX1 : Hid (W1.heap[w.heap.size]? = some (.cells #[.int .i64 p.s, .int .i64 p.n, .int .i64 p.d, .int .i64 p.r, .int .i64 p.l, .int .i64 p.b, .int .i64 p.g, .int .i64 p.k, .slice a n cap, .int .i64 al, .int .i64 m.a, .bool m.b, .int .i64 m.n, .int .i64 m.d, .string ⟨m.s.toArray⟩, .slice ta tn tc, .int .i64 rf] 43)) := row_on HX0.out hbc
  have HB1 : Hid (Below w.heap.size w W1) := bel_on (Nat.le_refl _) HB0.out hbc
  clear hbc HX0 HB0 HR0
  cases B
  · clear hP hG hM hB hl
    go_wp2
    go_ret
    exact ⟨rfl, HB1.out⟩
  obtain ⟨⟨ps0, ps1⟩, ⟨pg0, pg1⟩, pl0, pl1⟩ := dev_parts (l := l) (al := al) hP hB
  clear hP hG hM hB hl
  have hx1 := decT_size _ ps0 ps1
  have hx2 := decT_size _ pg0 pg1
  have hx3 := decT_size _ pl0 pl1
  have hx4 := name_size al
  have HE : Hid (shB true p al = shT (decT p.s) (decT p.g) (decT p.l) (J.nameN al)) := shB_yes p al
  have HT1 : Hid (decT p.s = ⟨(itoa p.s).toArray⟩) := rfl
  have HT2 : Hid (decT p.g = ⟨(itoa p.g).toArray⟩) := rfl
  have HT3 : Hid (decT p.l = ⟨(itoa p.l).toArray⟩) := rfl
  obtain ⟨x1, hX1⟩ : ∃ x, decT p.s = x := ⟨_, rfl⟩
  obtain ⟨x2, hX2⟩ : ∃ x, decT p.g = x := ⟨_, rfl⟩
  obtain ⟨x3, hX3⟩ : ∃ x, decT p.l = x := ⟨_, rfl⟩
  obtain ⟨x4, hX4⟩ : ∃ x, J.nameN al = x := ⟨_, rfl⟩
  have HX4' : Hid (J.nameN al = x4) := hX4
  rw [hX1] at HE HT1 hx1
  rw [hX2] at HE HT2 hx2
  rw [hX3] at HE HT3 hx3
  rw [hX4] at HE hx4
  clear hX1 hX2 hX3 hX4
  go_upto_region 3 with fail
  have HK0 : W1.drew.heap[w.heap.size]? = some (.cells #[.int .i64 p.s, .int .i64 p.n, .int .i64 p.d, .int .i64 p.r, .int .i64 p.l, .int .i64 p.b, .int .i64 p.g, .int .i64 p.k, .slice a n cap, .int .i64 al, .int .i64 m.a, .bool m.b, .int .i64 m.n, .int .i64 m.d, .string ⟨m.s.toArray⟩, .slice ta tn tc, .int .i64 rf] 43) := HX1.out
  have HB2 : Hid (Below w.heap.size w W1.drew) := bel_on (Nat.le_refl _) HB1.out (Below.refl _ _).drew
  refine wp_region_held_drew (S := fun w' => w'.heap[w.heap.size]? = some (.cells #[.int .i64 p.s, .int .i64 p.n, .int .i64 p.d, .int .i64 p.r, .int .i64 p.l, .int .i64 p.b, .int .i64 p.g, .int .i64 p.k, .slice a n cap, .int .i64 al, .int .i64 m.a, .bool m.b, .int .i64 m.n, .int .i64 m.d, .string ⟨m.s.toArray⟩, .slice ta tn tc, .int .i64 rf] 43)) (by kernel_rfl) HK0 (fun hHeld => ?_)
  obtain ⟨v0, hv0⟩ : ∃ v0, W1.drew = v0 := ⟨_, rfl⟩
  rw [hv0] at HK0 HB2 hHeld ⊢
  have HB0 : Hid (Below w.heap.size w v0) := HB2
  clear hv0 HB2 HX1 HB1
  refine wpAnyH_take (i := 0) rfl (by kernel_rfl) (by kernel_rfl) (by kernel_rfl) (fun _ _ _ h => h) (Or.inl ⟨by rfl, fun w_ hSw => by clear hSw; go_simp <;> with_reducible rfl⟩) (by assumption) ?_
  try simp only [Act.put, List.setIfInBounds_toArray, List.set_cons_zero, List.set_cons_succ, List.getElem_toArray, List.getElem_cons_zero, List.getElem_cons_succ]
  refine wpAnyH_take (i := 1) rfl (by kernel_rfl) (by kernel_rfl) (by kernel_rfl) (fun _ _ _ h => h) (Or.inl ⟨by rfl, fun w_ hSw => by clear hSw; go_simp <;> with_reducible rfl⟩) (by assumption) ?_
  try simp only [Act.put, List.setIfInBounds_toArray, List.set_cons_zero, List.set_cons_succ, List.getElem_toArray, List.getElem_cons_zero, List.getElem_cons_succ]
  refine wpAnyH_take (i := 2) rfl (by kernel_rfl) (by kernel_rfl) (by kernel_rfl) (fun _ _ _ h => h) (Or.inl ⟨by rfl, fun w_ hSw => by have f0 := box17_cells hSw; clear hSw; go_simp <;> with_reducible rfl⟩) (by assumption) ?_
  try simp only [Act.put, List.setIfInBounds_toArray, List.set_cons_zero, List.set_cons_succ, List.getElem_toArray, List.getElem_cons_zero, List.getElem_cons_succ]
  refine wpAnyH_take (i := 4) rfl (by kernel_rfl) (by kernel_rfl) (by kernel_rfl) (fun _ _ _ h => h) (Or.inl ⟨by rfl, fun w_ hSw => by clear hSw; go_simp <;> with_reducible rfl⟩) (by assumption) ?_
  try simp only [Act.put, List.setIfInBounds_toArray, List.set_cons_zero, List.set_cons_succ, List.getElem_toArray, List.getElem_cons_zero, List.getElem_cons_succ]
  refine wpAnyH_take (i := 5) rfl (by kernel_rfl) (by kernel_rfl) (by kernel_rfl) (fun _ _ _ h => h) (Or.inl ⟨by rfl, fun w_ hSw => by clear hSw; go_simp <;> with_reducible rfl⟩) (by assumption) ?_
  try simp only [Act.put, List.setIfInBounds_toArray, List.set_cons_zero, List.set_cons_succ, List.getElem_toArray, List.getElem_cons_zero, List.getElem_cons_succ]
  refine wpAnyH_take (i := 6) rfl (by kernel_rfl) (by kernel_rfl) (by kernel_rfl) (fun _ _ _ h => h) (Or.inl ⟨by rfl, fun w_ hSw => by have f0 := box17_cells hSw; clear hSw; go_simp <;> with_reducible rfl⟩) (by assumption) ?_
  try simp only [Act.put, List.setIfInBounds_toArray, List.set_cons_zero, List.set_cons_succ, List.getElem_toArray, List.getElem_cons_zero, List.getElem_cons_succ]
  refine wpAnyH_take (i := 8) rfl (by kernel_rfl) (by kernel_rfl) (by kernel_rfl) (fun _ _ _ h => h) (Or.inl ⟨by rfl, fun w_ hSw => by clear hSw; go_simp <;> with_reducible rfl⟩) (by assumption) ?_
  try simp only [Act.put, List.setIfInBounds_toArray, List.set_cons_zero, List.set_cons_succ, List.getElem_toArray, List.getElem_cons_zero, List.getElem_cons_succ]
  refine wpAnyH_take (i := 9) rfl (by kernel_rfl) (by kernel_rfl) (by kernel_rfl) (fun _ _ _ h => h) (Or.inl ⟨by rfl, fun w_ hSw => by clear hSw; go_simp <;> with_reducible rfl⟩) (by assumption) ?_
  try simp only [Act.put, List.setIfInBounds_toArray, List.set_cons_zero, List.set_cons_succ, List.getElem_toArray, List.getElem_cons_zero, List.getElem_cons_succ]
  refine wpAnyH_take (i := 10) rfl (by kernel_rfl) (by kernel_rfl) (by kernel_rfl) (fun _ _ _ h => h) (Or.inl ⟨by rfl, fun w_ hSw => by have f0 := box17_cells hSw; clear hSw; go_simp <;> with_reducible rfl⟩) (by assumption) ?_
  try simp only [Act.put, List.setIfInBounds_toArray, List.set_cons_zero, List.set_cons_succ, List.getElem_toArray, List.getElem_cons_zero, List.getElem_cons_succ]
  refine wpAnyH_take (i := 12) rfl (by kernel_rfl) (by kernel_rfl) (by kernel_rfl) (fun _ _ _ h => h) (Or.inl ⟨by rfl, fun w_ hSw => by clear hSw; go_simp <;> with_reducible rfl⟩) (by assumption) ?_
  try simp only [Act.put, List.setIfInBounds_toArray, List.set_cons_zero, List.set_cons_succ, List.getElem_toArray, List.getElem_cons_zero, List.getElem_cons_succ]
  refine wpAnyH_take (i := 13) rfl (by kernel_rfl) (by kernel_rfl) (by kernel_rfl) (fun _ _ _ h => h) (Or.inl ⟨by rfl, fun w_ hSw => by clear hSw; go_simp <;> with_reducible rfl⟩) (by assumption) ?_
  try simp only [Act.put, List.setIfInBounds_toArray, List.set_cons_zero, List.set_cons_succ, List.getElem_toArray, List.getElem_cons_zero, List.getElem_cons_succ]
  refine wpAnyH_take (i := 14) rfl (by kernel_rfl) (by kernel_rfl) (by kernel_rfl) (fun _ _ _ h => h) (Or.inl ⟨by rfl, fun w_ hSw => by have f0 := box17_cells hSw; clear hSw; go_simp <;> with_reducible rfl⟩) (by assumption) ?_
  try simp only [Act.put, List.setIfInBounds_toArray, List.set_cons_zero, List.set_cons_succ, List.getElem_toArray, List.getElem_cons_zero, List.getElem_cons_succ]
  refine wpAnyH_ready (rs := [3]) (by kernel_rfl) (by simp) ?_
  refine (AllReadyH.cons rfl (fun Jx hJ => ?_) AllReadyH.nil)
  go_simp
  go_at_call 21
  refine (J.dec6 p.s (by omega) (by omega) _ (J.tab_below HD0.out HB0.out)).mono ?_
  rintro e v1 ⟨rfl, hbc⟩
  have HK1 : v1.heap[w.heap.size]? = some (.cells #[.int .i64 p.s, .int .i64 p.n, .int .i64 p.d, .int .i64 p.r, .int .i64 p.l, .int .i64 p.b, .int .i64 p.g, .int .i64 p.k, .slice a n cap, .int .i64 al, .int .i64 m.a, .bool m.b, .int .i64 m.n, .int .i64 m.d, .string ⟨m.s.toArray⟩, .slice ta tn tc, .int .i64 rf] 43) := row_on HK0 hbc
  have HB1 : Hid (Below w.heap.size w v1) := bel_on (Nat.le_refl _) HB0.out hbc
  clear hbc HK0 HB0
  go_wp2_with fail
  refine hJ.out _ _ HK1 (fun hHeld => ?_)
  clear hJ Jx
  try simp only [Act.put, List.setIfInBounds_toArray, List.set_cons_zero, List.set_cons_succ, List.getElem_toArray, List.getElem_cons_zero, List.getElem_cons_succ]
  rw [← HT1.out]
  refine wpAnyH_ready (rs := [7]) (by kernel_rfl) (by simp) ?_
  refine (AllReadyH.cons rfl (fun Jx hJ => ?_) AllReadyH.nil)
  go_simp
  go_at_call 21
  refine (J.dec6 p.g (by omega) (by omega) _ (J.tab_below HD0.out HB1.out)).mono ?_
  rintro e v2 ⟨rfl, hbc⟩
  have HK2 : v2.heap[w.heap.size]? = some (.cells #[.int .i64 p.s, .int .i64 p.n, .int .i64 p.d, .int .i64 p.r, .int .i64 p.l, .int .i64 p.b, .int .i64 p.g, .int .i64 p.k, .slice a n cap, .int .i64 al, .int .i64 m.a, .bool m.b, .int .i64 m.n, .int .i64 m.d, .string ⟨m.s.toArray⟩, .slice ta tn tc, .int .i64 rf] 43) := row_on HK1 hbc
  have HB2 : Hid (Below w.heap.size w v2) := bel_on (Nat.le_refl _) HB1.out hbc
  clear hbc HK1 HB1
  go_wp2_with fail
  refine hJ.out _ _ HK2 (fun hHeld => ?_)
  clear hJ Jx
  try simp only [Act.put, List.setIfInBounds_toArray, List.set_cons_zero, List.set_cons_succ, List.getElem_toArray, List.getElem_cons_zero, List.getElem_cons_succ]
  rw [← HT2.out]
  refine wpAnyH_ready (rs := [11]) (by kernel_rfl) (by simp) ?_
  refine (AllReadyH.cons rfl (fun Jx hJ => ?_) AllReadyH.nil)
  go_simp
  go_at_call 21
  refine (J.dec6 p.l (by omega) (by omega) _ (J.tab_below HD0.out HB2.out)).mono ?_
  rintro e v3 ⟨rfl, hbc⟩
  have HK3 : v3.heap[w.heap.size]? = some (.cells #[.int .i64 p.s, .int .i64 p.n, .int .i64 p.d, .int .i64 p.r, .int .i64 p.l, .int .i64 p.b, .int .i64 p.g, .int .i64 p.k, .slice a n cap, .int .i64 al, .int .i64 m.a, .bool m.b, .int .i64 m.n, .int .i64 m.d, .string ⟨m.s.toArray⟩, .slice ta tn tc, .int .i64 rf] 43) := row_on HK2 hbc
  have HB3 : Hid (Below w.heap.size w v3) := bel_on (Nat.le_refl _) HB2.out hbc
  clear hbc HK2 HB2
  go_wp2_with fail
  refine hJ.out _ _ HK3 (fun hHeld => ?_)
  clear hJ Jx
  try simp only [Act.put, List.setIfInBounds_toArray, List.set_cons_zero, List.set_cons_succ, List.getElem_toArray, List.getElem_cons_zero, List.getElem_cons_succ]
  rw [← HT3.out]
  refine wpAnyH_ready (rs := [15]) (by kernel_rfl) (by simp) ?_
  refine (AllReadyH.cons rfl (fun Jx hJ => ?_) AllReadyH.nil)
  go_simp
  go_at_call 22
  refine (J.sNamesI al _ (J.tabS_below HS0.out HB3.out)).mono ?_
  rintro e v4 ⟨rfl, hbc⟩
  have HK4 : v4.heap[w.heap.size]? = some (.cells #[.int .i64 p.s, .int .i64 p.n, .int .i64 p.d, .int .i64 p.r, .int .i64 p.l, .int .i64 p.b, .int .i64 p.g, .int .i64 p.k, .slice a n cap, .int .i64 al, .int .i64 m.a, .bool m.b, .int .i64 m.n, .int .i64 m.d, .string ⟨m.s.toArray⟩, .slice ta tn tc, .int .i64 rf] 43) := row_on HK3 hbc
  have HB4 : Hid (Below w.heap.size w v4) := bel_on (Nat.le_refl _) HB3.out hbc
  clear hbc HK3 HB3
  go_wp2_with fail
  refine hJ.out _ _ HK4 (fun hHeld => ?_)
  clear hJ Jx
  try simp only [Act.put, List.setIfInBounds_toArray, List.set_cons_zero, List.set_cons_succ, List.getElem_toArray, List.getElem_cons_zero, List.getElem_cons_succ]
  rw [HX4'.out]
  refine wpAnyH_ready (rs := [16]) (by kernel_rfl) (by simp) ?_
  refine (AllReadyH.cons rfl (fun Jx hJ => ?_) AllReadyH.nil)
  go_simp
  go_wp2_with fail
  obtain ⟨V5, hV5⟩ : ∃ V5, v4.alloc (.cells #[.string ⟨#[115, 116, 97, 116, 101]⟩, .string x1, .string ⟨#[103, 105, 118, 101, 110]⟩, .string x2, .string ⟨#[108, 101, 102, 116]⟩, .string x3, .string ⟨#[97, 108, 97, 114, 109]⟩, .string x4] 9) = V5 := ⟨_, rfl⟩
  have hbc : Below v4.heap.size v4 V5 := by rw [← hV5]; exact alM _ _
  have HR5 : Hid (V5.heap[v4.heap.size]? = some (.cells #[.string ⟨#[115, 116, 97, 116, 101]⟩, .string x1, .string ⟨#[103, 105, 118, 101, 110]⟩, .string x2, .string ⟨#[108, 101, 102, 116]⟩, .string x3, .string ⟨#[97, 108, 97, 114, 109]⟩, .string x4] 9)) := by rw [← hV5]; exact heap_new v4 _
  have HK5 : V5.heap[w.heap.size]? = some (.cells #[.int .i64 p.s, .int .i64 p.n, .int .i64 p.d, .int .i64 p.r, .int .i64 p.l, .int .i64 p.b, .int .i64 p.g, .int .i64 p.k, .slice a n cap, .int .i64 al, .int .i64 m.a, .bool m.b, .int .i64 m.n, .int .i64 m.d, .string ⟨m.s.toArray⟩, .slice ta tn tc, .int .i64 rf] 43) := row_on HK4 hbc
  have HB5 : Hid (Below w.heap.size w V5) := bel_on (Nat.le_refl _) HB4.out hbc
  rw [hV5]
  clear hV5 hbc HK4 HB4
  refine hJ.out _ _ HK5 (fun hHeld => ?_)
  clear hJ Jx
  try simp only [Act.put, List.setIfInBounds_toArray, List.set_cons_zero, List.set_cons_succ, List.getElem_toArray, List.getElem_cons_zero, List.getElem_cons_succ]
  refine wpAnyH_ready (rs := [17]) (by kernel_rfl) (by simp) ?_
  refine (AllReadyH.cons rfl (fun Jx hJ => ?_) AllReadyH.nil)
  go_simp
  go_at_call 20
  refine (lineI x1 x2 x3 x4 hx1 hx2 hx3 hx4 v4.heap.size _ HR5.out).mono ?_
  rintro e v6 ⟨rfl, hbc⟩
  have HK6 : v6.heap[w.heap.size]? = some (.cells #[.int .i64 p.s, .int .i64 p.n, .int .i64 p.d, .int .i64 p.r, .int .i64 p.l, .int .i64 p.b, .int .i64 p.g, .int .i64 p.k, .slice a n cap, .int .i64 al, .int .i64 m.a, .bool m.b, .int .i64 m.n, .int .i64 m.d, .string ⟨m.s.toArray⟩, .slice ta tn tc, .int .i64 rf] 43) := row_on HK5 hbc
  have HB6 : Hid (Below w.heap.size w v6) := bel_on (Nat.le_refl _) HB5.out hbc
  clear hbc HK5 HB5 HR5
  go_wp2_with fail
  refine hJ.out _ _ HK6 (fun hHeld => ?_)
  clear hJ Jx
  try simp only [Act.put, List.setIfInBounds_toArray, List.set_cons_zero, List.set_cons_succ, List.getElem_toArray, List.getElem_cons_zero, List.getElem_cons_succ]
  refine wpAnyH_take (i := 18) rfl (by kernel_rfl) (by kernel_rfl) (by kernel_rfl) (fun _ _ _ h => h) (Or.inl ⟨by rfl, fun w_ hSw => by clear hSw; go_simp <;> with_reducible rfl⟩) (by assumption) ?_
  try simp only [Act.put, List.setIfInBounds_toArray, List.set_cons_zero, List.set_cons_succ, List.getElem_toArray, List.getElem_cons_zero, List.getElem_cons_succ]
  refine wpAnyH_done (by kernel_rfl) ?_ _
  go_wp2
  go_ret
  exact ⟨by rw [HE.out]; rfl, HB6.out⟩
end Go.Proofs.YtckeffccoghgeaaDoor
