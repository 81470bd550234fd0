/-
  FnStores: its walk over bytes that are not too many.
-/
import Derived.Test.YtelhnoepkfojkaaDrawR8
import Derived.Deep.DeepCutAuto
namespace Go.Proofs.Ytelhnoepkfojkaa
open Go.RowKit Go.PlainAid
set_option linter.unusedVariables false

theorem dregs (B : Nat) (a : Option Addr) (len cap : Nat) (w : World) (hcode : CodeOk w B a len) (hB : B ≤ w.heap.size) :
    Calls Try.prog 25 #[.slice a len cap] w fun e w' => ∃ (q : Option Addr) (n c : Nat) (rl : List (Int × Int)), e = .returned (.slice q n c) ∧ rl.length = n ∧ n ≤ c ∧ RegsOk rl ∧ RdR w' q rl ∧ Below w.heap.size w w' := by
  have HC : Hid (CodeOk w B a len) := hcode
  clear hcode
  go_enter Try.func25, Try.ntmps25
  go_wp2_with fail
  refine (new23 B a len cap _ HC.out hB).mono ?_
  rintro e w1 ⟨C, rfl, hC, hcur, hcode, hb1⟩
  have HCu : Hid (Cur w1 C a len cap) := hcur
  have HCo : Hid (CodeOk w1 B a len) := hcode
  have HW : Hid (Below w.heap.size w w1) := hb1
  have hBC : B ≤ C := by omega
  clear hcur hcode hb1
  go_wp2_with fail
  refine (regions C B a len cap _ HCu.out hBC HCo.out).mono ?_
  rintro e w2 ⟨v, rl, rfl, hok, hown, hD⟩
  obtain ⟨q, c, hv, hnc, _, hrd⟩ := own_rdR hown
  subst hv
  have HK : Hid (RegsOk rl) := hok
  have HR : Hid (RdR w2 q rl) := hrd
  have HW2 : Hid (Below w.heap.size w w2) := drawn_below HW.out hC hD
  clear hok hown hD hrd
  go_wp2
  go_ret
  exact ⟨q, _, c, rl, rfl, rfl, hnc, HK.out, HR.out, HW2.out⟩

theorem row_on {w w' : World} {k : Nat} {o : Obj} (h : w.heap[k]? = some o) (hb : Below w.heap.size w w') : w'.heap[k]? = some o := row_after h hb (row_lt h)
theorem RowAt.on {w w' : World} {g : Nat} {l : List Int} (h : RowAt w g l) (hb : Below w.heap.size w w') : RowAt w' g l := h.keep hb h.lt
theorem RdR.on {w w' : World} {a : Option Addr} {rl : List (Int × Int)} (h : RdR w a rl) (hb : Below w.heap.size w w') : RdR w' a rl := h.keep hb (Nat.le_refl _)
theorem Rd.on {w w' : World} {a : Option Addr} {l : List Int} (h : Rd w a l) (hb : Below w.heap.size w w') : Rd w' a l := h.keep hb (Nat.le_refl _)
theorem RowAt.alloc {w : World} {g : Nat} {l : List Int} (h : RowAt w g l) (o : Obj) : RowAt (w.alloc o) g l := (Below.heap_alloc _ _ _ h.lt).trans h
theorem bel_on {w W W' : World} {B : Nat} (hB : B ≤ w.heap.size) (h : Below B w W) (hb : Below W.heap.size W W') : Below B w W' := h.trans (hb.mono (Nat.le_trans hB h.size))
theorem bel_new (W : World) (o : Obj) : Below W.heap.size W (W.alloc o) := (Below.refl _ _).alloc (Nat.le_refl _) _
theorem undrew {W W' : World} (h : Below W.drew.heap.size W.drew W') : Below W.heap.size W W' := ((Below.refl W.heap.size W).drew).trans h
theorem own_rd' {w : World} {B n c : Nat} {q : Option Addr} {l : List Int} (h : w.ownsRow B 3 1 (.slice q n c) n (intsV l)) : Rd w q l := by
  obtain ⟨a, cap, hv, _, _, hr⟩ := own_rd h
  cases hv
  exact hr
/-- of right regions each cell is there -/
theorem cut64 {f s : Int} (h : regIn f s) : (cutN 64 f s : Int) = s := by
  unfold regIn at h
  rw [cutN_yes (by omega)]
  omega

theorem cut64n {f s : Int} (h : regIn f s) : cutN 64 f s = s.toNat := by have := cut64 h; omega
theorem ldB_in {f s : Int} {x : Nat} (h : regIn f s) (hx : (x : Int) < s) : ldB 64 f s (x : Int) = true := decide_eq_true ⟨by omega, by rw [cut64 h]; exact hx⟩
theorem ldB_end {f s : Int} (h : regIn f s) : ldB 64 f s s = false := decide_eq_false (by rw [cut64 h]; omega)
theorem ldB_neg (f s : Int) : ldB 64 f s (-1) = false := decide_eq_false (by omega)
theorem stL_in {l : List Int} {f s y : Int} {x : Nat} (hl : l.length = 64) (h : regIn f s) (hx : (x : Int) < s) : stL l f s (x : Int) y = l.set (f.toNat + x) (y % 65536) := by
  have hf := h.1
  unfold stL
  rw [if_pos ⟨by omega, by rw [hl, cut64 h]; exact hx⟩, show (f + (x : Int)).toNat = f.toNat + x by omega]
theorem stL_len (l : List Int) (f s p x : Int) : (stL l f s p x).length = l.length := by
  unfold stL
  split
  · rw [List.length_set]
  · rfl
theorem ldX_stL {l : List Int} {f s y : Int} {x : Nat} (hl : l.length = 64) (h : regIn f s) (hx : (x : Int) < s) : ldX (stL l f s (x : Int) y) f s (x : Int) = y % 65536 := by
  have h' := h
  unfold regIn at h'
  have hl2 : (stL l f s (x : Int) y).length = 64 := by rw [stL_len, hl]
  unfold ldX
  rw [if_pos ⟨by omega, by rw [hl2, cut64 h]; exact hx⟩, stL_in hl h hx, show (f + (x : Int)).toNat = f.toNat + x by omega, List.getD_eq_getElem?_getD, List.getElem?_set_self (by omega)]
  rfl
theorem stL_other {l : List Int} {f s y : Int} {x i : Nat} (hl : l.length = 64) (h : regIn f s) (hx : (x : Int) < s) (hi : i < 64) (hne : ¬ (i : Int) = f + x) : ∃ z, l[i]? = some z ∧ (stL l f s (x : Int) y)[i]? = some z := by
  have hf := h.1
  refine ⟨l[i]'(by omega), List.getElem?_eq_getElem (by omega), ?_⟩
  rw [stL_in hl h hx, List.getElem?_set_ne (by omega), List.getElem?_eq_getElem]

/-- what stands while FnStores is walked: the region's box, the list of regions, the third number -/
def ST (w1 W : World) (bx : Nat) (f s : Int) (q : Option Addr) (rl : List (Int × Int)) (gp : Nat) (p2 : Int) : Prop := W.heap[bx]? = some (.cells #[.int .i64 f, .int .i64 s] 31) ∧ RdR W q rl ∧ W.cell? ⟨gp, 2, none⟩ = some (.int .i64 p2) ∧ Below w1.heap.size w1 W
theorem ST.on {w1 W W' : World} {bx : Nat} {f s : Int} {q : Option Addr} {rl : List (Int × Int)} {gp : Nat} {p2 : Int} (h : ST w1 W bx f s q rl gp p2) (hb : Below W.heap.size W W') : ST w1 W' bx f s q rl gp p2 :=
  ⟨row_on h.1 hb, h.2.1.on hb, (hb.cell (p := ⟨gp, 2, none⟩) (World.block_lt_of_cell? W ⟨gp, 2, none⟩ h.2.2.1)).trans h.2.2.1, bel_on (Nat.le_refl _) h.2.2.2 hb⟩
/-- an arena of 64 cells in a box -/
def AB (W : World) (b : Nat) (q : Option Addr) (c : Nat) (l : List Int) : Prop := W.heap[b]? = some (.cells #[.slice q 64 c] 29) ∧ Rd W q l ∧ 64 ≤ c ∧ l.length = 64
theorem AB.on {W W' : World} {b : Nat} {q : Option Addr} {c : Nat} {l : List Int} (h : AB W b q c l) (hb : Below W.heap.size W W') : AB W' b q c l := ⟨row_on h.1 hb, h.2.1.on hb, h.2.2⟩
theorem AB.cell {W : World} {b g o c : Nat} {l : List Int} (h : AB W b (some ⟨g, o, none⟩) c l) {i : Nat} {z : Int} (hi : l[i]? = some z) : W.cell? ⟨g, o + i, none⟩ = some (.int .i64 z) := by
  have hlt := (List.getElem?_eq_some_iff.1 hi).1
  obtain ⟨g', o', e, hc⟩ := h.2.1 (by omega)
  cases e
  rw [hc i hlt]
  rw [List.getElem?_eq_getElem hlt] at hi
  cases hi
  rfl
theorem ab_new {W : World} {g : Nat} {l : List Int} (h : RowAt W g l) (hl : l.length = 64) : AB (W.alloc (.cells #[.slice (some ⟨g, 0, none⟩) 64 64] 29)) W.heap.size (some ⟨g, 0, none⟩) 64 l := ⟨heap_new W _, (h.alloc _).rd, Nat.le_refl _, hl⟩
theorem ab_set {W : World} {b g : Nat} {l : List Int} {z : Value} (hz : W.heap[b]? = some (.cells #[z] 29)) (h : RowAt W g l) (hne : g ≠ b) (hl : l.length = 64) : AB (W.setCell ⟨b, 0, none⟩ (.slice (some ⟨g, 0, none⟩) 64 64)) b (some ⟨g, 0, none⟩) 64 l := ⟨set1_row hz, RowAt.rd (set_other h hne), Nat.le_refl _, hl⟩
/-- the cells that the drawn region of a store reads -/
theorem c5_keep {w1 W0 W' : World} {bx ba gp c : Nat} {f s p2 : Int} {q qa : Option Addr} {rl : List (Int × Int)} {l : List Int} (h : ST w1 W0 bx f s q rl gp p2) (ha : AB W0 ba qa c l) (hB : Below W0.heap.size W0 W') :
    W'.cell? ⟨ba, 0, none⟩ = some (.slice qa 64 c) ∧ W'.cell? ⟨bx, 0, none⟩ = some (.int .i64 f) ∧ W'.cell? ⟨bx, 1, none⟩ = some (.int .i64 s) ∧ W'.cell? ⟨gp, 2, none⟩ = some (.int .i64 p2) ∧ Below W0.heap.size W0 W' := by
  have h1 := h.on hB
  have h2 := row2_cells h1.1
  exact ⟨(row1_cells (ha.on hB).1).1, h2.1, h2.2.1, h1.2.2.1, hB⟩
theorem c5_bel {W0 W : World} {bx ba gp c : Nat} {f s p2 : Int} {qa : Option Addr} (h : W.cell? ⟨ba, 0, none⟩ = some (.slice qa 64 c) ∧ W.cell? ⟨bx, 0, none⟩ = some (.int .i64 f) ∧ W.cell? ⟨bx, 1, none⟩ = some (.int .i64 s) ∧ W.cell? ⟨gp, 2, none⟩ = some (.int .i64 p2) ∧ Below W0.heap.size W0 W) : Below W0.heap.size W0 W := h.2.2.2.2
theorem c5_on {W0 W W' : World} {bx ba gp c : Nat} {f s p2 : Int} {qa : Option Addr} (hb : Below W.heap.size W W') (h : W.cell? ⟨ba, 0, none⟩ = some (.slice qa 64 c) ∧ W.cell? ⟨bx, 0, none⟩ = some (.int .i64 f) ∧ W.cell? ⟨bx, 1, none⟩ = some (.int .i64 s) ∧ W.cell? ⟨gp, 2, none⟩ = some (.int .i64 p2) ∧ Below W0.heap.size W0 W) : Below W0.heap.size W0 W' := bel_on (Nat.le_refl _) h.2.2.2.2 hb

set_option maxRecDepth 100000 in
set_option maxHeartbeats 4000000 in
theorem stores_in (a : Option Addr) (len cap : Nat) (hl : len ≤ 1048576) (w : World) (hcode : CodeOk w w.heap.size a len) :
    Calls Try.prog 6 #[.slice a len cap] w fun e w' => e = .returned (.bool true) ∧ Below w.heap.size w w' := by
  have HCode : Hid (CodeOk w w.heap.size a len) := hcode
  have hll : len ≤ 9223372036854775807 := by omega
  clear hcode
  go_enter Try.func6, Try.ntmps6
  go_wp2_with fail
  refine (big5 a len cap hll _).mono ?_
  rintro e w1 ⟨rfl, rfl⟩
  rw [decide_eq_false (by omega)]
  go_wp2_with fail
  refine (dregs w1.heap.size a len cap _ HCode.out (Nat.le_refl _)).mono ?_
  rintro e w2 ⟨q, n, c, rl, rfl, hn, hnc, hok, hrd, hb2⟩
  have HN : Hid (rl.length = n) := hn
  have HK : Hid (RegsOk rl) := hok
  have HR2 : Hid (RdR w2 q rl) := hrd
  have HW2 : Hid (Below w1.heap.size w1 w2) := hb2
  have HC2 : Hid (CodeOk w2 w1.heap.size a len) := code_below HCode.out hb2
  have n1 : 1 ≤ n := by have := hok.1; omega
  have n4 : n ≤ 4 := by have := hok.2.1; omega
  have s2 := hb2.size
  clear hn hok hrd hb2
  go_wp2_with fail
  refine (places7 w1.heap.size a len cap _ HC2.out s2).mono ?_
  rintro e w3 ⟨gp, cp, p0, p1, p2, p3, rfl, ⟨p0a, p0b⟩, ⟨p1a, p1b⟩, ⟨p2a, p2b⟩, _, hgp, c0, c1, c2, c3, hgpl, hb3⟩
  have HP : Hid (w3.cell? ⟨gp, 0, none⟩ = some (.int .i64 p0) ∧ w3.cell? ⟨gp, 1, none⟩ = some (.int .i64 p1) ∧ w3.cell? ⟨gp, 2, none⟩ = some (.int .i64 p2)) := ⟨c0, c1, c2⟩
  have HR3 : Hid (RdR w3 q rl) := HR2.out.on hb3
  have HW3 : Hid (Below w1.heap.size w1 w3) := bel_on (Nat.le_refl _) HW2.out hb3
  clear c1 c2 c3 hb3 HR2 HW2 HC2 s2
  obtain ⟨g, off, rfl, hc⟩ := HR3.out (by have := HN.out; omega)
  obtain ⟨k, hk⟩ : ∃ k : Nat, (k : Int) = p0 % (n : Int) := ⟨(p0 % (n : Int)).toNat, Int.toNat_of_nonneg (Int.emod_nonneg _ (by omega))⟩
  have hkn : k < n := by have := Int.emod_lt_of_pos p0 (show (0 : Int) < (n : Int) by omega); omega
  have hkl : k < rl.length := by have := HN.out; omega
  have d := hc k hkl
  have HM : Hid (regIn rl[k].1 rl[k].2) := HK.out.2.2.1 k hkl
  obtain ⟨f, hf⟩ : ∃ f, rl[k].1 = f := ⟨_, rfl⟩
  obtain ⟨s, hs⟩ : ∃ s, rl[k].2 = s := ⟨_, rfl⟩
  rw [hf, hs] at d HM
  have hk1 : p0 % (n : Int) = (k : Int) := hk.symm
  have hk2 : p0.tmod (n : Int) = (k : Int) := by rw [Int.tmod_eq_emod_of_nonneg p0a]; exact hk1
  have hs1 : 1 ≤ s := HM.out.2.2.1
  have hs64 : s ≤ 64 := by have := HM.out; unfold regIn at this; omega
  have hf0 : 0 ≤ f := HM.out.1
  have hf64 : f + s ≤ 64 := by have := HM.out; unfold regIn at this; omega
  obtain ⟨x, hx⟩ : ∃ x : Nat, (x : Int) = p1 % s := ⟨(p1 % s).toNat, Int.toNat_of_nonneg (Int.emod_nonneg _ (by omega))⟩
  have hx1 : p1 % s = (x : Int) := hx.symm
  have hx2 : p1.tmod s = (x : Int) := by rw [Int.tmod_eq_emod_of_nonneg p1a]; exact hx1
  have hxs : (x : Int) < s := by rw [hx]; exact Int.emod_lt_of_pos p1 (by omega)
  have HBX : Hid ((w3.alloc (.cells #[.int .i64 f, .int .i64 s] 31)).heap[w3.heap.size]? = some (.cells #[.int .i64 f, .int .i64 s] 31)) := heap_new w3 _
  have HW4 : Hid (Below w1.heap.size w1 (w3.alloc (.cells #[.int .i64 f, .int .i64 s] 31))) := HW3.out.alloc HW3.out.size _
  have HP1 : Hid ((w3.alloc (.cells #[.int .i64 f, .int .i64 s] 31)).cell? ⟨gp, 1, none⟩ = some (.int .i64 p1) ∧ (w3.alloc (.cells #[.int .i64 f, .int .i64 s] 31)).cell? ⟨gp, 2, none⟩ = some (.int .i64 p2)) := ⟨((bel_new w3 _).cell (p := ⟨gp, 1, none⟩) hgpl).trans HP.out.2.1, ((bel_new w3 _).cell (p := ⟨gp, 2, none⟩) hgpl).trans HP.out.2.2⟩
  have c1 := HP1.out.1
  have k5 := row2_cells HBX.out
  clear hc hf hs hk hx
  go_upto_region 6 with fail
  go_cut [6] (fun av wc => av = .int .i64 x ∧ Hid (Below (w3.alloc (.cells #[.int .i64 f, .int .i64 s] 31)).heap.size (w3.alloc (.cells #[.int .i64 f, .int .i64 s] 31)) wc))
  case first =>
    go_quiet (fail)
    go_wp2_with fail
    go_meet
    exact ⟨rfl, below_drewN (Below.refl _ _) _⟩
  case rest =>
  rename World => wA
  obtain ⟨rfl, HBA⟩ := hcut
  have HSA : Hid (ST w1 wA w3.heap.size f s (some ⟨g, off, none⟩) rl gp p2) := ST.on (W := w3.alloc (.cells #[.int .i64 f, .int .i64 s] 31)) ⟨HBX.out, HR3.out.on (bel_new w3 _), HP1.out.2, HW4.out⟩ HBA.out
  generalize w3.heap.size = bx at HSA ⊢
  clear HBA HBX HW4 HP1 HP HR3 HW3 c0 c1 k5 d hk1 hk2 hx1 hx2 hgp hgpl
  go_upto_region 7 with fail
  go_cut [7] (fun pz wc => ∃ (ba ca : Nat) (qa : Option Addr), pz = .pointer (some ⟨ba, 0, none⟩) ∧ Hid (AB wc ba qa ca z64) ∧ Hid (ST w1 wc bx f s (some ⟨g, off, none⟩) rl gp p2))
  case first =>
    go_wp2_with fail
    refine (newI _).mono ?_
    rintro e w5 ⟨ga, rfl, _, hrow5, hb5⟩
    have HS5 : Hid (ST w1 w5 bx f s (some ⟨g, off, none⟩) rl gp p2) := HSA.out.on hb5
    have HR5 : Hid (RowAt w5 ga z64) := hrow5
    clear hrow5 hb5
    go_wp2_with fail
    refine (clearS ⟨ga, 0, none⟩ z64 64 64 0 0 (by simp [z64]) (by omega) _ HR5.out.rd).mono ?_
    rintro e w6 ⟨v, rfl, hown, hb6⟩
    have HS6 : Hid (ST w1 w6 bx f s (some ⟨g, off, none⟩) rl gp p2) := HS5.out.on hb6
    have e0 : clL z64 0 0 = z64 := clL_none (cutN_no (.inl (by omega)))
    rw [e0] at hown
    obtain ⟨qa, ca, hv, hcc, _, hrd⟩ := own_rd hown
    subst hv
    have HA6 : Hid (AB (w6.alloc (.cells #[.slice qa 64 ca] 29)) w6.heap.size qa ca z64) := ⟨heap_new w6 _, hrd.on (bel_new w6 _), hcc, by simp [z64]⟩
    have HS7 : Hid (ST w1 (w6.alloc (.cells #[.slice qa 64 ca] 29)) bx f s (some ⟨g, off, none⟩) rl gp p2) := HS6.out.on (bel_new w6 _)
    clear hown hb6 e0 hrd HS5 HR5 HS6
    go_wp2_with fail
    go_meet
    exact ⟨_, _, _, rfl, HA6, HS7⟩
  case rest =>
  rename World => wB
  obtain ⟨ba, ca, qa, rfl, HAB, HSB⟩ := hcut
  clear HSA
  obtain ⟨Y, q1, HY⟩ : ∃ Y, IntKind.i64.wrap (p2 * 13) = Y ∧ Hid (Y = p2 * 13) := ⟨p2 * 13, wrap_in (by omega) (by omega), rfl⟩
  obtain ⟨L1, HL1⟩ : ∃ L1, Hid (stL z64 f s (x : Int) Y = L1) := ⟨_, rfl⟩
  have hL1 : L1.length = 64 := by rw [← HL1.out, stL_len]; simp [z64]
  have HLL : Hid (L1.length = 64) := hL1
  clear hL1
  have HT : Hid (ldB 64 f s (x : Int) = true) := ldB_in HM.out hxs
  have hca := HAB.out.2.2.1
  go_upto_region 8 with fail
  go_cut [8, 9] (fun pz ok wc => ok = .bool true ∧ ∃ (bb gb : Nat), pz = .pointer (some ⟨bb, 0, none⟩) ∧ Hid (AB wc bb (some ⟨gb, 0, none⟩) 64 L1) ∧ Hid (Below wB.heap.size wB wc))
  case first =>
    go_region_held3 (fun w' => w'.cell? ⟨ba, 0, none⟩ = some (.slice qa 64 ca) ∧ w'.cell? ⟨bx, 0, none⟩ = some (.int .i64 f) ∧ w'.cell? ⟨bx, 1, none⟩ = some (.int .i64 s) ∧ w'.cell? ⟨gp, 2, none⟩ = some (.int .i64 p2) ∧ Below wB.heap.size wB w') (first | (exact c5_keep HSB.out HAB.out HBz.out) | (exact c5_keep HSB.out HAB.out (Below.refl _ _).drew) | (exact c5_keep HSB.out HAB.out (HBz.out.alloc HBz.out.size _)) | (exact c5_keep HSB.out HAB.out (HBz.out.setCell (by first | exact Nat.le_refl _ | omega | (simp <;> omega)) _)) | (exact c5_keep HSB.out HAB.out ((c5_bel (by assumption)).alloc (c5_bel (by assumption)).size _))) (first | (go_at_call 23; refine (storeI qa z64 64 ca f s x Y (by simp [z64]) (by omega) hca _ ?_).mono ?_; (exact HAB.out.2.1.on (c5_bel (by assumption))); rintro e wF ⟨gF, rfl, hgF, hrowF, hbF⟩; (rw [HL1.out] at hrowF); (try simp at hgF); have ssF := hbF.size; (try simp at ssF); have HBz : Hid (Below wB.heap.size wB wF) := c5_on hbF (by assumption); (first | (have z4 := row_on (heap_new wB (.cells #[.slice none 0 0] 29)) (undrew hbF); have kz := row1_cells z4; have HZ4 : Hid (_ = _) := z4; clear z4) | skip)))
    all_goals (try go_wp2_with fail)
    all_goals go_meet
    all_goals first | exact ⟨by rw [HT.out], _, _, rfl, ab_new hrowF HLL.out, HBz.out.alloc HBz.out.size _⟩ | exact ⟨by rw [HT.out], _, _, rfl, ab_set HZ4.out hrowF (by omega) HLL.out, HBz.out.setCell (Nat.le_refl _) _⟩
  case rest =>
  rename World => wC
  obtain ⟨rfl, bb, gb, rfl, HBC, HBE⟩ := hcut
  have HAC : Hid (AB wC ba qa ca z64) := HAB.out.on HBE.out
  have HSC : Hid (ST w1 wC bx f s (some ⟨g, off, none⟩) rl gp p2) := HSB.out.on HBE.out
  obtain ⟨ha, oa, hqa, _⟩ := HAC.out.2.1 (by simp [z64])
  subst hqa
  obtain ⟨V, HV⟩ : ∃ V, Hid (ldX L1 f s (x : Int) = V) := ⟨_, rfl⟩
  have HVY : Hid (V = Y % 65536) := by rw [← HV.out, ← HL1.out]; exact ldX_stL (by simp [z64]) HM.out hxs
  clear HBE HAB HSB
  have kb := row1_cells HBC.out.1
  have kx := row2_cells HSC.out.1
  go_wp2_with fail
  refine (loadI (some ⟨gb, 0, none⟩) L1 64 64 f s x HLL.out (by omega) (Nat.le_refl _) _ HBC.out.2.1).mono ?_
  rintro e w9 ⟨rfl, hb9⟩
  have HA9 : Hid (AB w9 ba (some ⟨ha, oa, none⟩) ca z64) := HAC.out.on hb9
  have HB9 : Hid (AB w9 bb (some ⟨gb, 0, none⟩) 64 L1) := HBC.out.on hb9
  have HS9 : Hid (ST w1 w9 bx f s (some ⟨g, off, none⟩) rl gp p2) := HSC.out.on hb9
  rw [HV.out, HT.out]
  clear hb9 kb kx HAC HBC HSC
  have kb := row1_cells HB9.out.1
  have kx := row2_cells HS9.out.1
  go_wp2_with fail
  refine (storeI (some ⟨gb, 0, none⟩) L1 64 64 f s s 1 HLL.out (by omega) (Nat.le_refl _) _ HB9.out.2.1).mono ?_
  rintro e w10 ⟨g10, rfl, _, _, hb10⟩
  rw [ldB_end HM.out]
  have hb10' := hb10.trans ((bel_new w10 (.cells #[.slice (some ⟨g10, 0, none⟩) 64 64] 29)).mono hb10.size)
  have HA10 : Hid (AB (w10.alloc (.cells #[.slice (some ⟨g10, 0, none⟩) 64 64] 29)) ba (some ⟨ha, oa, none⟩) ca z64) := HA9.out.on hb10'
  have HB10 : Hid (AB (w10.alloc (.cells #[.slice (some ⟨g10, 0, none⟩) 64 64] 29)) bb (some ⟨gb, 0, none⟩) 64 L1) := HB9.out.on hb10'
  have HS10 : Hid (ST w1 (w10.alloc (.cells #[.slice (some ⟨g10, 0, none⟩) 64 64] 29)) bx f s (some ⟨g, off, none⟩) rl gp p2) := HS9.out.on hb10'
  clear hb10 hb10' kb kx HA9 HB9 HS9
  have kb := row1_cells HB10.out.1
  have kx := row2_cells HS10.out.1
  go_wp2_with fail
  refine (loadI (some ⟨gb, 0, none⟩) L1 64 64 f s (-1) HLL.out (by omega) (Nat.le_refl _) _ HB10.out.2.1).mono ?_
  rintro e w11 ⟨rfl, hb11⟩
  rw [ldB_neg]
  have HA11 : Hid (AB w11 ba (some ⟨ha, oa, none⟩) ca z64) := HA10.out.on hb11
  have HB11 : Hid (AB w11 bb (some ⟨gb, 0, none⟩) 64 L1) := HB10.out.on hb11
  have HS11 : Hid (ST w1 w11 bx f s (some ⟨g, off, none⟩) rl gp p2) := HS10.out.on hb11
  clear hb11 kb kx HA10 HB10 HS10
  generalize ldX L1 f s (-1) = v14
  obtain ⟨T, q2, HTT⟩ : ∃ T, IntKind.i64.wrap (f + (x : Int)) = T ∧ Hid (T = f + (x : Int)) := ⟨f + (x : Int), wrap_in (by omega) (by omega), rfl⟩
  go_wp2
  go_loopg [16] 64 (fun gk iv wr => ∃ i : Nat, i + gk = 64 ∧ iv = .int .i64 i ∧ Hid (Below w11.heap.size w11 wr))
  case atStart => exact ⟨0, by omega, rfl, Below.refl _ _⟩
  case round =>
    obtain ⟨i, hi, rfl, HW⟩ := hrel
    have kb := row1_cells (HB11.out.on HW.out).1
    have ka := row1_cells (HA11.out.on HW.out).1
    have kx := row2_cells (HS11.out.on HW.out).1
    by_cases hlt : i < 64
    · have i0 : (0 : Int) ≤ (i : Int) := by omega
      have i1 : (i : Int) < 64 := by omega
      by_cases he : (i : Int) = T
      · have he' : ((i : Int) != T) = false := by simp [he]
        clear he
        go_wp2
        go_quiet (fail)
        go_wp2
        go_roundg (gk - 1)
        case measure => omega
        case rel => exact ⟨i + 1, by omega, by go_num, below_drewN HW.out _⟩
      · have he' : ((i : Int) != T) = true := by simp [he]
        obtain ⟨z, hz1, hz2⟩ := stL_other (l := z64) (y := Y) (by simp [z64]) HM.out hxs hlt (by have := HTT.out; omega)
        rw [HL1.out] at hz2
        have cb := (HB11.out.on HW.out).cell hz2
        have cA := (HA11.out.on HW.out).cell hz1
        rw [Nat.zero_add] at cb
        clear hz1 hz2 he
        go_wp2
        go_quiet (fail)
        go_wp2
        go_roundg (gk - 1)
        case measure => omega
        case rel => exact ⟨i + 1, by omega, by go_num, below_drewN HW.out _⟩
    · have HA12 : Hid (AB wr ba (some ⟨ha, oa, none⟩) ca z64) := HA11.out.on HW.out
      have HB12 : Hid (AB wr bb (some ⟨gb, 0, none⟩) 64 L1) := HB11.out.on HW.out
      have HS12 : Hid (ST w1 wr bx f s (some ⟨g, off, none⟩) rl gp p2) := HS11.out.on HW.out
      obtain ⟨L2, HL2⟩ : ∃ L2, Hid (stL L1 f s (x : Int) (-1) = L2) := ⟨_, rfl⟩
      have HLL2 : Hid (L2.length = 64) := by rw [← HL2.out]; show _ = _; rw [stL_len]; exact HLL.out
      have HM2 : Hid (ldX L2 f s (x : Int) = 65535) := by rw [← HL2.out]; show _ = _; rw [ldX_stL HLL.out HM.out hxs]; decide
      clear HW HA11 HB11 HS11 ka
      go_wp2_with fail
      refine (storeI (some ⟨gb, 0, none⟩) L1 64 64 f s x (-1) HLL.out (by omega) (Nat.le_refl _) _ HB12.out.2.1).mono ?_
      rintro e w13 ⟨g13, rfl, _, hrow13, hb13⟩
      rw [HL2.out] at hrow13
      have hb13' := hb13.trans ((bel_new w13 (.cells #[.slice (some ⟨g13, 0, none⟩) 64 64] 29)).mono hb13.size)
      have HA13 : Hid (AB (w13.alloc (.cells #[.slice (some ⟨g13, 0, none⟩) 64 64] 29)) ba (some ⟨ha, oa, none⟩) ca z64) := HA12.out.on hb13'
      have HC13 : Hid (AB (w13.alloc (.cells #[.slice (some ⟨g13, 0, none⟩) 64 64] 29)) w13.heap.size (some ⟨g13, 0, none⟩) 64 L2) := ab_new hrow13 HLL2.out
      have HS13 : Hid (ST w1 (w13.alloc (.cells #[.slice (some ⟨g13, 0, none⟩) 64 64] 29)) bx f s (some ⟨g, off, none⟩) rl gp p2) := HS12.out.on hb13'
      clear hb13 hb13' hrow13 kb kx HA12 HB12 HS12
      have kc := row1_cells HC13.out.1
      have kx := row2_cells HS13.out.1
      go_wp2_with fail
      refine (loadI (some ⟨g13, 0, none⟩) L2 64 64 f s x HLL2.out (by omega) (Nat.le_refl _) _ HC13.out.2.1).mono ?_
      rintro e w14 ⟨rfl, hb14⟩
      rw [HM2.out]
      have HA14 : Hid (AB w14 ba (some ⟨ha, oa, none⟩) ca z64) := HA13.out.on hb14
      have HS14 : Hid (ST w1 w14 bx f s (some ⟨g, off, none⟩) rl gp p2) := HS13.out.on hb14
      clear hb14 kc kx HA13 HC13 HS13
      have cp2 := HS14.out.2.2.1
      have hV : Y % 65536 = V := HVY.out.symm
      have hV2 : Y.tmod 65536 = V := by rw [Int.tmod_eq_emod_of_nonneg (by have := HY.out; omega)]; exact hV
      go_wp2_with fail
      refine (regsI (some ⟨g, off, none⟩) rl n c true HN.out (by omega) hnc ⟨fun _ => HK.out, fun _ => rfl⟩ _ HS14.out.2.1).mono ?_
      rintro e w15 ⟨rfl, hb15⟩
      have HA15 : Hid (AB w15 ba (some ⟨ha, oa, none⟩) ca z64) := HA14.out.on hb15
      have HW15 : Hid (Below w1.heap.size w1 w15) := bel_on (Nat.le_refl _) HS14.out.2.2.2 hb15
      clear hb15 HA14 HS14 cp2 hV hV2
      have ka := row1_cells HA15.out.1
      go_wp2
      go_ret
      exact ⟨rfl, HW15.out⟩
end Go.Proofs.Ytelhnoepkfojkaa
