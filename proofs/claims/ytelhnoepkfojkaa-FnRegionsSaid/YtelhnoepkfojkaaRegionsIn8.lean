/-
  FnRegions: its walk over bytes that are not too many.
-/
import Derived.Test.YtelhnoepkfojkaaDrawN8
import Derived.Test.YtelhnoepkfojkaaStoresIn8
namespace Go.Proofs.Ytelhnoepkfojkaa
open Go.RowKit Go.PlainAid
set_option linter.unusedVariables false

/-- what stands while FnRegions is walked: the arena's box, the region's, the list of regions, the arena's cells -/
def RT (w1 W : World) (ba br : Nat) (g n : Nat) (f s : Int) (q : Option Addr) (rl : List (Int × Int)) (l : List Int) : Prop := W.heap[ba]? = some (.cells #[.slice (some ⟨g, 0, none⟩) n 64] 29) ∧ W.heap[br]? = some (.cells #[.int .i64 f, .int .i64 s] 31) ∧ RdR W q rl ∧ Rd W (some ⟨g, 0, none⟩) l ∧ Below w1.heap.size w1 W
theorem RT.on {w1 W W' : World} {ba br g n : Nat} {f s : Int} {q : Option Addr} {rl : List (Int × Int)} {l : List Int} (h : RT w1 W ba br g n f s q rl l) (hb : Below W.heap.size W W') : RT w1 W' ba br g n f s q rl l :=
  ⟨row_on h.1 hb, row_on h.2.1 hb, h.2.2.1.on hb, h.2.2.2.1.on hb, bel_on (Nat.le_refl _) h.2.2.2.2 hb⟩
theorem RT.drew {w1 W : World} {ba br g n : Nat} {f s : Int} {q : Option Addr} {rl : List (Int × Int)} {l : List Int} (h : RT w1 W ba br g n f s q rl l) : RT w1 W.drew ba br g n f s q rl l := ⟨h.1, h.2.1, h.2.2.1, h.2.2.2.1, h.2.2.2.2.drew⟩
theorem rt_conj {w1 W : World} {ba br g n : Nat} {f s : Int} {q : Option Addr} {rl : List (Int × Int)} {l : List Int} (h : RT w1 W ba br g n f s q rl l) : W.cell? ⟨ba, 0, none⟩ = some (.slice (some ⟨g, 0, none⟩) n 64) ∧ W.cell? ⟨br, 0, none⟩ = some (.int .i64 f) ∧ W.cell? ⟨br, 1, none⟩ = some (.int .i64 s) ∧ RT w1 W ba br g n f s q rl l :=
  ⟨(row1_cells h.1).1, (row2_cells h.2.1).1, (row2_cells h.2.1).2.1, h⟩

theorem field0 (a : Option Addr) (n c : Nat) (w : World) : (Instr.field 29 (.agg #[.slice a n c]) 0).run Try.prog w = .ok (.slice a n c) w := by kernel_rfl

set_option maxRecDepth 100000 in
set_option maxHeartbeats 8000000 in
theorem regions_in (a : Option Addr) (len cap : Nat) (hl : len ≤ 1048576) (w : World) (hcode : CodeOk w w.heap.size a len) :
    Calls Try.prog 8 #[.slice a len cap] w fun e w' => e = .returned (.bool true) ∧ Below w.heap.size w w' := by
  have HCode : Hid (CodeOk w w.heap.size a len) := hcode
  have hll : len ≤ 9223372036854775807 := by omega
  clear hcode
  go_enter Try.func8, Try.ntmps8
  go_wp2_with fail
  refine (big5 a len cap hll _).mono ?_
  rintro e w1 ⟨rfl, rfl⟩
  rw [decide_eq_false (by omega)]
  go_wp2_with fail
  refine (dany w1.heap.size a len cap _ HCode.out (Nat.le_refl _)).mono ?_
  rintro e w2 ⟨q, n, c, rl, rfl, hn, hn5, hnc, hrd, hb2⟩
  have HN : Hid (rl.length = n) := hn
  have HR2 : Hid (RdR w2 q rl) := hrd
  have HW2 : Hid (Below w1.heap.size w1 w2) := hb2
  have HC2 : Hid (CodeOk w2 w1.heap.size a len) := code_below HCode.out hb2
  have s2 := hb2.size
  clear hn hrd hb2
  go_wp2_with fail
  refine (dcells w1.heap.size a len cap _ HC2.out s2).mono ?_
  rintro e w3 ⟨g, m, l, f, s, rfl, hl2, hm, hrd, hb3⟩
  have HL : Hid (l.length = m) := hl2
  have hx := bel_new w3 (.cells #[.slice (some ⟨g, 0, none⟩) m 64] 29)
  have HT : Hid (RT w1 ((w3.alloc (.cells #[.slice (some ⟨g, 0, none⟩) m 64] 29)).alloc (.cells #[.int .i64 f, .int .i64 s] 31)) w3.heap.size (w3.heap.size + 1) g m f s q rl l) := by
    obtain ⟨h1, h2, h3⟩ := arena_start w3 (.slice (some ⟨g, 0, none⟩) m 64) (.int .i64 f) (.int .i64 s) 29 31
    exact ⟨h1, h2, (HR2.out.on hb3).on h3, hrd.on h3, bel_on (Nat.le_refl _) (bel_on (Nat.le_refl _) HW2.out hb3) h3⟩
  clear hl2 hrd hb3 hx HR2 HW2 HC2 s2
  obtain ⟨b, HB⟩ : ∃ b : Bool, Hid (b = true ↔ RegsOk rl) := by
    by_cases hk : RegsOk rl
    · exact ⟨true, ⟨fun _ => hk, fun _ => rfl⟩⟩
    · exact ⟨false, ⟨fun h => (by cases h), fun h => absurd h hk⟩⟩
  obtain ⟨k, HK⟩ : ∃ k, Hid (cutN m f s = k) := ⟨_, rfl⟩
  obtain ⟨E, HE⟩ : ∃ E, Hid (ceL l f s = E) := ⟨_, rfl⟩
  obtain ⟨D, HDd⟩ : ∃ D, Hid (clL l f s = D) := ⟨_, rfl⟩
  have hkn : k ≤ 1048576 := by have := cutN_le m f s; have := HK.out; omega
  have HEL : Hid (E.length = k) := by have := ceL_len l f s; rw [HL.out, HK.out, HE.out] at this; exact this
  have HDL : Hid (D.length = m) := by have := clL_len l f s; rw [HL.out, HDd.out] at this; exact this
  have hbb : (b == b) = true := by simp
  have hfd := field0
  go_wp2_with fail
  go_region_held3 (fun w' => w'.cell? ⟨w3.heap.size, 0, none⟩ = some (.slice (some ⟨g, 0, none⟩) m 64) ∧ w'.cell? ⟨w3.heap.size + 1, 0, none⟩ = some (.int .i64 f) ∧ w'.cell? ⟨w3.heap.size + 1, 1, none⟩ = some (.int .i64 s) ∧ RT w1 w' w3.heap.size (w3.heap.size + 1) g m f s q rl l) (first | (exact rt_conj T9.out) | (exact rt_conj T8.out) | (exact rt_conj T7.out) | (exact rt_conj T6.out) | (exact rt_conj T5.out) | (exact rt_conj T4.out) | (exact rt_conj T3.out) | (exact rt_conj T2.out) | (exact rt_conj T1.out) | (exact rt_conj HT.out.drew)) (first | (go_at_call 29; refine (regsI q rl n c b HN.out (by omega) hnc HB.out _ HT.out.drew.2.2.1).mono ?_; rintro e v1 ⟨rfl, hb1⟩; have T1 : Hid (RT w1 v1 w3.heap.size (w3.heap.size + 1) g m f s q rl l) := HT.out.drew.on hb1) | (go_at_call 33; refine (regsS q rl n c b HN.out (by omega) HB.out _ T1.out.2.2.1).mono ?_; rintro e v2 ⟨rfl, hb2⟩; have T2 : Hid (RT w1 v2 w3.heap.size (w3.heap.size + 1) g m f s q rl l) := T1.out.on hb2) | (go_at_call 13; refine (cellsI (some ⟨g, 0, none⟩) l m 64 f s HL.out (by omega) hm _ T2.out.2.2.2.1).mono ?_; rintro e v3 ⟨g3, rfl, _, hrow3, hb3⟩; (rw [HE.out] at hrow3); have T3 : Hid (RT w1 v3 w3.heap.size (w3.heap.size + 1) g m f s q rl l) := T2.out.on hb3) | (go_at_call 10; refine (cellsS (some ⟨g, 0, none⟩) l m 64 f s HL.out (by omega) _ T3.out.2.2.2.1).mono ?_; rintro e v4 ⟨u4, rfl, hown4, hb4⟩; (rw [HE.out, HK.out] at hown4); obtain ⟨q4, c4, hv4⟩ := own_shape hown4; subst hv4; have T4 : Hid (RT w1 v4 w3.heap.size (w3.heap.size + 1) g m f s q rl l) := T3.out.on hb4) | (go_at_call 30; (fail_if_success (have hq := T5)); (rw [HK.out]); refine (sameI (some ⟨g3, 0, none⟩) q4 E k k c4 HEL.out hkn _ (hrow3.on hb4).rd (own_rd' hown4)).mono ?_; rintro e v5 ⟨rfl, hb5⟩; have T5 : Hid (RT w1 v5 w3.heap.size (w3.heap.size + 1) g m f s q rl l) := T4.out.on hb5) | (go_at_call 20; refine (clearI (some ⟨g, 0, none⟩) l m 64 f s HL.out (by omega) hm _ T5.out.2.2.2.1).mono ?_; rintro e v6 ⟨g6, rfl, _, hrow6, hb6⟩; (rw [HDd.out] at hrow6); have T6 : Hid (RT w1 v6 w3.heap.size (w3.heap.size + 1) g m f s q rl l) := T5.out.on hb6) | (go_at_call 19; refine (clearS ⟨g, 0, none⟩ l m 64 f s HL.out (by omega) _ T6.out.2.2.2.1).mono ?_; rintro e v7 ⟨u7, rfl, hown7, hb7⟩; (rw [HDd.out] at hown7); obtain ⟨q7, c7, hv7⟩ := own_shape hown7; subst hv7; have T7 : Hid (RT w1 v7 w3.heap.size (w3.heap.size + 1) g m f s q rl l) := T6.out.on hb7) | (go_at_call 30; refine (sameI (some ⟨g6, 0, none⟩) q7 D m m c7 HDL.out (by omega) _ (hrow6.on hb7).rd (own_rd' hown7)).mono ?_; rintro e v8 ⟨rfl, hb8⟩; have T8 : Hid (RT w1 v8 w3.heap.size (w3.heap.size + 1) g m f s q rl l) := T7.out.on hb8) | (go_at_call 27; refine (newI _).mono ?_; rintro e v9 ⟨g9, rfl, _, _, hb9⟩; have T9 : Hid (RT w1 v9 w3.heap.size (w3.heap.size + 1) g m f s q rl l) := T8.out.on hb9))
  rename_i HH
  have HW : Hid (Below w1.heap.size w1 v9) := T9.out.2.2.2.2
  clear HH T1 T2 T3 T4 T5 T6 T7 T8 T9 hb1 hb2 hb3 hb4 hb5 hb6 hb7 hb8 hb9 hrow3 hown4 hrow6 hown7
  go_wp2
  go_ret
  exact ⟨rfl, HW.out⟩
end Go.Proofs.Ytelhnoepkfojkaa
