/-
  What is drawn for a run, and for Forward.
-/
import Derived.Test.YthnocibkgpofnaaDraw7
import Derived.Test.YthnocibkgpofnaaAl
namespace Go.Proofs.Ythnocibkgpofnaa.I
open D
open Go.RowKit Go.PlainAid
set_option linter.unusedVariables false

theorem rd_grown {W W' : World} {g C : Nat} {l : List Int} (h : Rd W (some ⟨g, 0, none⟩) l) (hg : W.grownBy W' (some C)) (hne : g ≠ C) : Rd W' (some ⟨g, 0, none⟩) l := fun h0 => by
  obtain ⟨b, off, ha, hc⟩ := h h0
  cases ha
  refine ⟨g, 0, rfl, fun j hj => ?_⟩
  have h1 := hc j hj
  exact (hg.cell_far ⟨g, 0 + j, none⟩ (World.block_lt_of_cell? W _ h1) (by simp; omega)).trans h1
theorem rd_set {W : World} {g k i : Nat} {l : List Int} {v : Value} (h : Rd W (some ⟨g, 0, none⟩) l) (hk : g ≠ k) : Rd (W.setCell ⟨k, i, none⟩ v) (some ⟨g, 0, none⟩) l := fun h0 => by
  obtain ⟨b, off, ha, hc⟩ := h h0
  cases ha
  exact ⟨g, 0, rfl, fun j hj => cell_set (hc j hj) hk⟩
theorem OwnI.rd' {w : World} {B g n c : Nat} {ys : List (Int × Int)} (h : OwnI w B (.slice (some ⟨g, 0, none⟩) n c) ys) : RdR w (some ⟨g, 0, none⟩) ys := by
  obtain ⟨a, cap, e, hr⟩ := h.rd
  injection e with e1 _ _
  rw [e1]; exact hr

set_option maxRecDepth 100000 in
set_option maxHeartbeats 2000000 in
theorem drawForward (a : Option Addr) (len cap : Nat) (w : World) (hcode : CodeOk w w.heap.size a len) :
    Calls Try.prog 24 #[.slice a len cap] w fun e w' => ∃ (q : Option Addr) (n c : Nat) (ys : List (Int × Int)), e = .returned (.slice q n c) ∧ ys.length = n ∧ n ≤ 61 ∧ RdR w' q ys ∧ Below w.heap.size w w' := by
  have HCO : Hid (CodeOk w w.heap.size a len) := hcode
  clear hcode
  go_enter Try.func24, Try.ntmps24
  go_wp2_with fail
  refine (new23 w.heap.size a len cap _ HCO.out (Nat.le_refl _)).mono ?_
  rintro e w1 ⟨C, rfl, hB, hcur, hcode, hb1⟩
  have HC1 : Hid (Cur w1 C a len cap ∧ CodeOk w1 w.heap.size a len) := ⟨hcur, hcode⟩
  have HB1 : Hid (Below w.heap.size w w1) := hb1
  clear hcur hcode hb1 HCO
  go_wp2_with fail
  refine (onceR C w.heap.size a len cap 6 (by omega) (by omega) _ HC1.out.1 hB HC1.out.2).mono ?_
  rintro e w2 ⟨b, rfl, hD⟩
  have HD2 : Hid (Drawn w1 w2 C w.heap.size a len cap) := hD
  clear hD HC1
  cases b
  · go_wp2_with fail
    refine (code7D C w.heap.size a len cap _ HD2.out.1 hB HD2.out.2.1).mono ?_
    rintro e w3 ⟨g, n, c, ys, rfl, hl, hn, ho, hD⟩
    have HR : Hid (ys.length = n ∧ RdR w3 (some ⟨g, 0, none⟩) ys) := ⟨hl, ho.rd'⟩
    have HBF : Hid (Below w.heap.size w w3) := drawn_below HB1.out hB (drawn_trans HD2.out hD)
    clear hl ho hD HD2
    go_wp2
    go_ret
    exact ⟨_, n, c, ys, rfl, HR.out.1, by omega, HR.out.2, HBF.out⟩
  · go_wp2_with fail
    refine (anyD C w.heap.size a len cap _ HD2.out.1 hB HD2.out.2.1).mono ?_
    rintro e w3 ⟨v, ys, rfl, hn, ho, hD⟩
    obtain ⟨q, c, rfl, hr⟩ := ho.rd
    obtain ⟨n, hnn⟩ : ∃ n, ys.length = n := ⟨_, rfl⟩
    rw [hnn]
    have HR : Hid (ys.length = n ∧ RdR w3 q ys) := ⟨hnn, hr⟩
    have HBF : Hid (Below w.heap.size w w3) := drawn_below HB1.out hB (drawn_trans HD2.out hD)
    have hn61 : n ≤ 61 := by omega
    clear ho hr hD HD2 hnn hn
    go_wp2
    go_ret
    exact ⟨q, n, c, ys, rfl, HR.out.1, hn61, HR.out.2, HBF.out⟩

set_option maxRecDepth 100000 in
set_option maxHeartbeats 2000000 in
theorem drawRun (a : Option Addr) (len cap : Nat) (w : World) (hcode : CodeOk w w.heap.size a len) :
    Calls Try.prog 20 #[.slice a len cap] w fun e w' => ∃ (g n c : Nat) (ys : List (Int × Int)) (ga m : Nat) (ce : List Int) (f s most : Int),
      e = .returned (.tuple #[.slice (some ⟨g, 0, none⟩) n c, .agg #[.slice (some ⟨ga, 0, none⟩) m 64], .agg #[.int .i64 f, .int .i64 s], .int .i64 most]) ∧ ys.length = n ∧ n ≤ 46 ∧ RdR w' (some ⟨g, 0, none⟩) ys ∧ ce.length = m ∧ m ≤ 64 ∧ Rd w' (some ⟨ga, 0, none⟩) ce ∧ (-1 ≤ most ∧ most ≤ 1000) ∧ Below w.heap.size w w' := by
  have HZA : Hid (((w.alloc (.cells #[.slice none 0 0] 34)).alloc (.cells #[.int .i64 0, .int .i64 0] 36)).heap[w.heap.size]? = some (.cells #[.slice none 0 0] 34)) := al2_1 w _ _
  have HZR : Hid (((w.alloc (.cells #[.slice none 0 0] 34)).alloc (.cells #[.int .i64 0, .int .i64 0] 36)).heap[w.heap.size + 1]? = some (.cells #[.int .i64 0, .int .i64 0] 36)) := al2_2 w _ _
  have HW0 : Hid (Below w.heap.size w ((w.alloc (.cells #[.slice none 0 0] 34)).alloc (.cells #[.int .i64 0, .int .i64 0] 36))) := al2_b w _ _
  have HCO : Hid (CodeOk ((w.alloc (.cells #[.slice none 0 0] 34)).alloc (.cells #[.int .i64 0, .int .i64 0] 36)) w.heap.size a len) := code_below hcode HW0.out
  clear hcode
  go_enter Try.func20, Try.ntmps20
  go_wp2_with fail
  refine (new23 w.heap.size a len cap _ HCO.out (by simp; omega)).mono ?_
  rintro e w1 ⟨C, rfl, hC0, hcur1, hcode1, hb1⟩
  have hC : w.heap.size + 2 ≤ C := by simp at hC0; omega
  have hBC : w.heap.size ≤ C := by omega
  have HA1 : Hid (w1.heap[w.heap.size]? = some (.cells #[.slice none 0 0] 34)) := row_on HZA.out hb1
  have HG1 : Hid (w1.heap[w.heap.size + 1]? = some (.cells #[.int .i64 0, .int .i64 0] 36)) := row_on HZR.out hb1
  have HW1 : Hid (Below w.heap.size w w1) := HW0.out.trans (hb1.mono HW0.out.size)
  have HC1 : Hid (Cur w1 C a len cap ∧ CodeOk w1 w.heap.size a len) := ⟨hcur1, hcode1⟩
  have l1 := cur_lt hcur1
  clear hC0 hcur1 hcode1 hb1 HZA HZR HW0 HCO
  go_wp2_with fail
  refine (code7D C w.heap.size a len cap _ HC1.out.1 hBC HC1.out.2).mono ?_
  rintro e w2 ⟨g, n, c, ys, rfl, hyl, hn46, hown, hD2⟩
  have HYL : Hid (ys.length = n) := hyl
  have HO2 : Hid (OwnI w2 w1.heap.size (.slice (some ⟨g, 0, none⟩) n c) ys) := hown
  have HA2 : Hid (w2.heap[w.heap.size]? = some (.cells #[.slice none 0 0] 34)) := row_drawn HA1.out hD2.2.2 (by omega)
  have HG2 : Hid (w2.heap[w.heap.size + 1]? = some (.cells #[.int .i64 0, .int .i64 0] 36)) := row_drawn HG1.out hD2.2.2 (by omega)
  have HD2 : Hid (Drawn w1 w2 C w.heap.size a len cap) := hD2
  have s2 := hD2.2.2.size
  have hg1 : w1.heap.size ≤ g := own_ge hown g rfl
  clear hown hD2 HC1 HA1 HG1 hyl
  go_wp2_with fail
  refine (arenaR C w.heap.size a len cap _ HD2.out.1 hBC HD2.out.2.1).mono ?_
  rintro e w4 ⟨ga, m, ce, rfl, hcl, hm64, hrda, hga, hD4⟩
  have HCL : Hid (ce.length = m) := hcl
  have HRA4 : Hid (Rd w4 (some ⟨ga, 0, none⟩) ce) := hrda
  have HO4 : Hid (OwnI w4 w1.heap.size (.slice (some ⟨g, 0, none⟩) n c) ys) := own_gr HO2.out hD4.2.2 (by omega)
  have HA4 : Hid (w4.heap[w.heap.size]? = some (.cells #[.slice none 0 0] 34)) := row_drawn HA2.out hD4.2.2 (by omega)
  have HG4 : Hid (w4.heap[w.heap.size + 1]? = some (.cells #[.int .i64 0, .int .i64 0] 36)) := row_drawn HG2.out hD4.2.2 (by omega)
  have HD4 : Hid (Drawn w1 w4 C w.heap.size a len cap) := drawn_trans HD2.out hD4
  have s4 := hD4.2.2.size
  clear hcl hrda hD4 HD2 HO2 HA2 HG2
  go_wp2_with fail
  refine (regionR C w.heap.size a len cap _ HD4.out.1 hBC HD4.out.2.1).mono ?_
  rintro e w5 ⟨f, s, rfl, hD5⟩
  have HRA5 : Hid (Rd w5 (some ⟨ga, 0, none⟩) ce) := rd_grown HRA4.out hD5.2.2 (by omega)
  have HO5 : Hid (OwnI w5 w1.heap.size (.slice (some ⟨g, 0, none⟩) n c) ys) := own_gr HO4.out hD5.2.2 (by omega)
  have HA5 : Hid (w5.heap[w.heap.size]? = some (.cells #[.slice none 0 0] 34)) := row_drawn HA4.out hD5.2.2 (by omega)
  have HG5 : Hid (w5.heap[w.heap.size + 1]? = some (.cells #[.int .i64 0, .int .i64 0] 36)) := row_drawn HG4.out hD5.2.2 (by omega)
  have HD5 : Hid (Drawn w1 w5 C w.heap.size a len cap) := drawn_trans HD4.out hD5
  have s5 := hD5.2.2.size
  clear hD5 HD4 HO4 HA4 HG4 HRA4
  have HDa : Hid (∀ o, Drawn w1 (w5.alloc o) C w.heap.size a len cap) := fun o => drawn_alloc HD5.out (by omega) o
  have HOa : Hid (∀ o, OwnI (w5.alloc o) w1.heap.size (.slice (some ⟨g, 0, none⟩) n c) ys) := fun o => HO5.out.alloc o
  have HRAa : Hid (∀ o, Rd (w5.alloc o) (some ⟨ga, 0, none⟩) ce) := fun o => HRA5.out.keep (al1_b w5 o) (Nat.le_refl _)
  have HAa : Hid (∀ o, (w5.alloc o).heap[w.heap.size]? = some (.cells #[.slice none 0 0] 34)) := fun o => row_on HA5.out (al1_b w5 o)
  have HGa : Hid (∀ o, (w5.alloc o).heap[w.heap.size + 1]? = some (.cells #[.int .i64 0, .int .i64 0] 36)) := fun o => row_on HG5.out (al1_b w5 o)
  have HLI : Hid _ := laid_ints0 w5 [0, 5, 20, 60, 200, 1000, -1]
  have sC := cur_lt HD5.out.1
  have sA : ∀ o, (w5.alloc o).heap.size = w5.heap.size + 1 := fun o => by simp
  have HSA : Hid (∀ o, (w5.alloc o).heap.size = w5.heap.size + 1) := sA
  clear HD5 HO5 HA5 HG5 HRA5 sA
  go_wp2_with fail
  refine (pick26' C w.heap.size a len cap [0, 5, 20, 60, 200, 1000, -1] 7 _ _ rfl (by omega) (by omega) _ (HDa.out _).1 hBC (HDa.out _).2.1 (by omega) (by simp) HLI.out).mono ?_
  rintro e w6 ⟨most, rfl, hmm, hD6⟩
  have HMO : Hid (-1 ≤ most ∧ most ≤ 1000) := by
    simp only [List.mem_cons, List.not_mem_nil, or_false] at hmm
    show -1 ≤ most ∧ most ≤ 1000
    omega
  have HRA6 : Hid (Rd w6 (some ⟨ga, 0, none⟩) ce) := rd_grown (HRAa.out _) hD6.2.2 (by omega)
  have HO6 : Hid (OwnI w6 w1.heap.size (.slice (some ⟨g, 0, none⟩) n c) ys) := own_gr (HOa.out _) hD6.2.2 (by omega)
  have HA6 : Hid (w6.heap[w.heap.size]? = some (.cells #[.slice none 0 0] 34)) := row_drawn (HAa.out _) hD6.2.2 (by omega)
  have HG6 : Hid (w6.heap[w.heap.size + 1]? = some (.cells #[.int .i64 0, .int .i64 0] 36)) := row_drawn (HGa.out _) hD6.2.2 (by omega)
  have HD6 : Hid (Drawn w1 w6 C w.heap.size a len cap) := drawn_trans (HDa.out _) hD6
  have HW6 : Hid (Below w.heap.size w w6) := drawn_below HW1.out hBC HD6.out
  clear hmm hD6 HDa HOa HRAa HAa HGa HLI HSA
  have kz1 := row1_cells HA6.out
  have kz2 := row2_cells HG6.out
  have hgs : w.heap.size + 2 ≤ ga := by omega
  have hgg : w.heap.size + 2 ≤ g := by omega
  have e01 : ¬ w.heap.size = w.heap.size + 1 := by omega
  go_wp2
  refine bodyPost_ret (v := .tuple #[.slice (some ⟨g, 0, none⟩) n c, .agg #[.slice (some ⟨ga, 0, none⟩) m 64], .agg #[.int .i64 f, .int .i64 s], .int .i64 most]) (by simp [results, Try.results20, go_sem, kz1, kz2]) rfl ?_
  have oC : OwnI _ _ _ _ := own_setOther (k := w.heap.size + 1) (i := 1) (x := .int .i64 s) (own_setOther (k := w.heap.size + 1) (i := 0) (x := .int .i64 f) (own_setOther (k := w.heap.size) (i := 0) (x := .slice (some ⟨ga, 0, none⟩) m 64) HO6.out (fun k hk => by simp [Value.ownBlock] at hk; omega)) (fun k hk => by simp [Value.ownBlock] at hk; omega)) (fun k hk => by simp [Value.ownBlock] at hk; omega)
  exact ⟨g, n, c, ys, ga, m, ce, f, s, most, rfl, HYL.out, hn46, oC.rd', HCL.out, hm64, rd_set (rd_set (rd_set HRA6.out (by omega)) (by omega)) (by omega), HMO.out, ((HW6.out.setCell (Nat.le_refl _) _).setCell (by show w.heap.size ≤ w.heap.size + 1; omega) _).setCell (by show w.heap.size ≤ w.heap.size + 1; omega) _⟩
end Go.Proofs.Ythnocibkgpofnaa.I
