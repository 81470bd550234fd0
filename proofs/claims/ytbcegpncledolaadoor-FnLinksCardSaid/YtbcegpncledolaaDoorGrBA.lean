/-
  FnSeen over bytes that are few enough.
-/
import Derived.Test.YtbcegpncledolaaDoorGrAW
import Derived.Test.YtbcegpncledolaaDoorGrAC
import Derived.Test.YtbcegpncledolaaDoorGrAY
import Derived.Test.YtbcegpncledolaaDoorGrAZ
import Derived.Test.YtbcegpncledolaaDoorGrAX
import Derived.Deep.DeepCutAuto
namespace Go.Proofs.YtbcegpncledolaaDoor
open Go.RowKit Go.PlainAid
set_option linter.unusedVariables false
set_option linter.unusedSimpArgs false

theorem code_on {w w' : World} {a : Option Addr} {len : Nat} (h : CodeOk w w.heap.size a len) (hb : Below w.heap.size w w') : CodeOk w' w'.heap.size a len := by
  have h2 := code_below h hb
  refine ⟨h2.1, fun hp => ?_⟩
  obtain ⟨b, off, ha, hlt, hc⟩ := h2.2 hp
  exact ⟨b, off, ha, Nat.lt_of_lt_of_le hlt hb.size, hc⟩
theorem pl_on {w w' : World} {gp : Nat} {p0 p1 p2 : Int} (h : (w.cell? ⟨gp, 0, none⟩ = some (.int .i64 p0) ∧ w.cell? ⟨gp, 1, none⟩ = some (.int .i64 p1) ∧ w.cell? ⟨gp, 2, none⟩ = some (.int .i64 p2))) (hb : Below w.heap.size w w') : (w'.cell? ⟨gp, 0, none⟩ = some (.int .i64 p0) ∧ w'.cell? ⟨gp, 1, none⟩ = some (.int .i64 p1) ∧ w'.cell? ⟨gp, 2, none⟩ = some (.int .i64 p2)) :=
  ⟨(hb.cell (p := ⟨gp, 0, none⟩) (block_lt_of_cell h.1)).trans h.1, (hb.cell (p := ⟨gp, 1, none⟩) (block_lt_of_cell h.2.1)).trans h.2.1, (hb.cell (p := ⟨gp, 2, none⟩) (block_lt_of_cell h.2.2)).trans h.2.2⟩
theorem pl_grown {w w' : World} {gp : Nat} {r : Option Nat} {p0 p1 p2 : Int} (h : (w.cell? ⟨gp, 0, none⟩ = some (.int .i64 p0) ∧ w.cell? ⟨gp, 1, none⟩ = some (.int .i64 p1) ∧ w.cell? ⟨gp, 2, none⟩ = some (.int .i64 p2))) (hg : w.grownBy w' r) (hr : some gp ≠ r) : (w'.cell? ⟨gp, 0, none⟩ = some (.int .i64 p0) ∧ w'.cell? ⟨gp, 1, none⟩ = some (.int .i64 p1) ∧ w'.cell? ⟨gp, 2, none⟩ = some (.int .i64 p2)) :=
  ⟨hg.cell h.1 hr, hg.cell h.2.1 hr, hg.cell h.2.2 hr⟩
theorem pl_put {w w' : World} {gp k : Nat} {ob : Obj} {p0 p1 p2 : Int} (h : (w.cell? ⟨gp, 0, none⟩ = some (.int .i64 p0) ∧ w.cell? ⟨gp, 1, none⟩ = some (.int .i64 p1) ∧ w.cell? ⟨gp, 2, none⟩ = some (.int .i64 p2))) (hp : PutM w w' k ob) (hk : gp ≠ k) : (w'.cell? ⟨gp, 0, none⟩ = some (.int .i64 p0) ∧ w'.cell? ⟨gp, 1, none⟩ = some (.int .i64 p1) ∧ w'.cell? ⟨gp, 2, none⟩ = some (.int .i64 p2)) :=
  ⟨(World.cell?_of_block (hp.2.1 gp hk)).trans h.1, (World.cell?_of_block (hp.2.1 gp hk)).trans h.2.1, (World.cell?_of_block (hp.2.1 gp hk)).trans h.2.2⟩
def SPs (w : World) (x7 x9 gp gt i1 i0 : Nat) (ga gb p0 p1 al : Int) (tv : Value) : Prop := w.cell? ⟨x7, 6, none⟩ = some (.int .i64 ga) ∧ w.cell? ⟨x7, 9, none⟩ = some (.int .i64 al) ∧ w.cell? ⟨x9, 9, none⟩ = some (.int .i64 0) ∧ w.cell? ⟨x9, 6, none⟩ = some (.int .i64 gb) ∧ w.cell? ⟨x9, 15, none⟩ = some tv ∧ w.cell? ⟨gt, i1 * 3, none⟩ = some (.int .i64 2) ∧ w.cell? ⟨gt, i0 * 3, none⟩ = some (.int .i64 0) ∧ w.cell? ⟨gp, 0, none⟩ = some (.int .i64 p0) ∧ w.cell? ⟨gp, 1, none⟩ = some (.int .i64 p1)
set_option maxRecDepth 100000 in
set_option maxHeartbeats 16000000 in
theorem seen_in (a : Option Addr) (len cap : Nat) (hb : len ≤ 1048576) (w : World) (hcode : CodeOk w w.heap.size a len) (ht : Q.Tab w) :
    Calls Tryd.prog 5 #[.slice a len cap] w fun e w' => e = .returned (.bool true) ∧ Below w.heap.size w w' := by
  have HC : Hid (CodeOk w w.heap.size a len) := hcode
  have HT : Hid (Q.Tab w) := ht
  clear hcode ht
  go_enter Tryd.func5, Tryd.ntmps5
  go_wp2_with fail
  refine (big5 a len cap (by omega) _).mono ?_
  rintro e w1 ⟨rfl, rfl⟩
  rw [decide_eq_false (by omega)]
  go_wp2_with fail
  refine (places7 w1.heap.size a len cap _ HC.out (Nat.le_refl _)).mono ?_
  rintro e w2 ⟨gp, cp, p0, p1, p2, p3, rfl, h0, h1, h2, h3, hgp, k0, k1, k2, k3, hrest⟩
  have HB2 : Hid (Below w1.heap.size w1 w2) := by exact hrest.2
  have HP2 : Hid (w2.cell? ⟨gp, 0, none⟩ = some (.int .i64 p0) ∧ w2.cell? ⟨gp, 1, none⟩ = some (.int .i64 p1) ∧ w2.cell? ⟨gp, 2, none⟩ = some (.int .i64 p2)) := ⟨k0, k1, k2⟩
  obtain ⟨B, hB⟩ : ∃ B, w2.heap.size = B := ⟨_, rfl⟩
  have hgB : gp < B := by rw [← hB]; exact block_lt_of_cell k0
  have hwB : w1.heap.size ≤ B := by rw [← hB]; exact HB2.out.size
  obtain ⟨n0, hn0⟩ : ∃ n0 : Nat, p0.tmod 9 = (n0 : Int) := ⟨(p0.tmod 9).toNat, by rw [Int.tmod_eq_emod_of_nonneg h0.1]; omega⟩
  have h08 : n0 ≤ 8 := by rw [Int.tmod_eq_emod_of_nonneg h0.1] at hn0; omega
  obtain ⟨n2, hn2⟩ : ∃ n2 : Nat, p2.tmod 9 = (n2 : Int) := ⟨(p2.tmod 9).toNat, by rw [Int.tmod_eq_emod_of_nonneg h2.1]; omega⟩
  have h28 : n2 ≤ 8 := by rw [Int.tmod_eq_emod_of_nonneg h2.1] at hn2; omega
  obtain ⟨c1, hc1⟩ : ∃ c1 : Int, p1.tmod 15 = c1 := ⟨_, rfl⟩
  have hc1b : 0 ≤ c1 ∧ c1 ≤ 14 := by rw [Int.tmod_eq_emod_of_nonneg h1.1] at hc1; omega
  have e0 : p0 % 9 = (n0 : Int) := by rw [← Int.tmod_eq_emod_of_nonneg h0.1]; exact hn0
  have e2 : p2 % 9 = (n2 : Int) := by rw [← Int.tmod_eq_emod_of_nonneg h2.1]; exact hn2
  have e1 : p1 % 15 = c1 := by rw [← Int.tmod_eq_emod_of_nonneg h1.1]; exact hc1
  obtain ⟨bb, hbb⟩ : ∃ bb : Int, 1 + c1 = bb := ⟨_, rfl⟩
  have hbb1 : 1 ≤ bb ∧ bb ≤ 15 := by omega
  have HBB : Hid (1 + c1 = bb) := hbb
  clear h0 h1 h2 h3 hgp k0 k1 k2 k3 hrest hbb
  have HO3 : Hid (OwnI3 (w2.alloc (.cells #[.int .i64 0, .string ⟨#[98, 50, 10, 49, 10, 57, 57, 57, 10]⟩, .string ⟨#[]⟩] 44)) B B 1 1 (seeT0 0)) := by
    have h := RowZ.ownI3 (one_rowZ w2 0 ⟨#[98, 50, 10, 49, 10, 57, 57, 57, 10]⟩ ⟨#[]⟩) (Nat.le_of_eq hB.symm) (by unfold maxLen; simp)
    rw [hB] at h
    exact h
  have HP3 : Hid ((w2.alloc (.cells #[.int .i64 0, .string ⟨#[98, 50, 10, 49, 10, 57, 57, 57, 10]⟩, .string ⟨#[]⟩] 44)).cell? ⟨gp, 0, none⟩ = some (.int .i64 p0) ∧ (w2.alloc (.cells #[.int .i64 0, .string ⟨#[98, 50, 10, 49, 10, 57, 57, 57, 10]⟩, .string ⟨#[]⟩] 44)).cell? ⟨gp, 1, none⟩ = some (.int .i64 p1) ∧ (w2.alloc (.cells #[.int .i64 0, .string ⟨#[98, 50, 10, 49, 10, 57, 57, 57, 10]⟩, .string ⟨#[]⟩] 44)).cell? ⟨gp, 2, none⟩ = some (.int .i64 p2)) := pl_on HP2.out (alM _ _)
  have HB3 : Hid (Below w1.heap.size w1 (w2.alloc (.cells #[.int .i64 0, .string ⟨#[98, 50, 10, 49, 10, 57, 57, 57, 10]⟩, .string ⟨#[]⟩] 44))) := bel_on (Nat.le_refl _) HB2.out (alM _ _)
  clear HP2 HB2
  go_upto_region 5 with fail
  (try rw [hB])
  generalize w2.alloc (.cells #[.int .i64 0, .string ⟨#[98, 50, 10, 49, 10, 57, 57, 57, 10]⟩, .string ⟨#[]⟩] 44) = w3 at *
  clear hB
  go_wp2_with fail
  go_loopg [4, 5] n0 (fun gk s i wr => ∃ (j q g c : Nat), j + gk = n0 ∧ Hid (q = 1 + j) ∧ s = .slice (some ⟨g, 0, none⟩) q c ∧ i = .int .i64 j ∧ Hid (OwnI3 wr B g q c (seeT0 j)) ∧ Hid (wr.cell? ⟨gp, 0, none⟩ = some (.int .i64 p0) ∧ wr.cell? ⟨gp, 1, none⟩ = some (.int .i64 p1) ∧ wr.cell? ⟨gp, 2, none⟩ = some (.int .i64 p2)) ∧ Hid (Below w1.heap.size w1 wr))
  case atStart => exact ⟨0, 1, B, 1, by omega, rfl, rfl, rfl, HO3, HP3, HB3⟩
  case round =>
    clear HO3 HP3 HB3
    obtain ⟨j, q, g, c, hj, HQ, rfl, rfl, HO, HP, HB⟩ := hrel
    have hq10 : q ≤ 10 := by have := HQ.out; omega
    obtain ⟨pc0, pc1, pc2⟩ := HP.out
    by_cases hlt : j < n0
    · have j0 : (0 : Int) ≤ j := by omega
      have j1 : (j : Int) < n0 := by omega
      have qj : IntKind.i64.wrap ((j : Int) + 1) = (j : Int) + 1 := wrap_in (by omega) (by omega)
      have hBr : B ≤ wr.heap.size := Nat.le_of_lt (Nat.lt_of_le_of_lt HO.out.ge HO.out.lt)
      have HO4 : Hid (OwnI3 (wr.alloc (.cells #[.int .i64 0, .string ⟨#[]⟩, .string ⟨#[]⟩] 44)) B g q c (seeT0 j)) := HO.out.on (alM _ _)
      have HP4 : Hid ((wr.alloc (.cells #[.int .i64 0, .string ⟨#[]⟩, .string ⟨#[]⟩] 44)).cell? ⟨gp, 0, none⟩ = some (.int .i64 p0) ∧ (wr.alloc (.cells #[.int .i64 0, .string ⟨#[]⟩, .string ⟨#[]⟩] 44)).cell? ⟨gp, 1, none⟩ = some (.int .i64 p1) ∧ (wr.alloc (.cells #[.int .i64 0, .string ⟨#[]⟩, .string ⟨#[]⟩] 44)).cell? ⟨gp, 2, none⟩ = some (.int .i64 p2)) := pl_on HP.out (alM _ _)
      have HB4 : Hid (Below w1.heap.size w1 (wr.alloc (.cells #[.int .i64 0, .string ⟨#[]⟩, .string ⟨#[]⟩] 44))) := bel_on (Nat.le_refl _) HB.out (alM _ _)
      have HR4 : Hid (RdZ (wr.alloc (.cells #[.int .i64 0, .string ⟨#[]⟩, .string ⟨#[]⟩] 44)) (some ⟨wr.heap.size, 0, none⟩) [(0, ⟨#[]⟩, ⟨#[]⟩)]) := (one_rowZ wr 0 ⟨#[]⟩ ⟨#[]⟩).rd
      clear HO HP HB
      go_upto_region 8 with fail
      clear pc0 pc1 pc2
      go_wp2_with (refine listZ rfl (.tmp 26) (.tmp 28) rfl B g q c (seeT0 j) (some ⟨wr.heap.size, 0, none⟩) 1 1 [(0, ⟨#[]⟩, ⟨#[]⟩)] rfl rfl HO4.out rfl (fun e => by cases e) HR4.out (by omega) (by simp; omega) ?_)
      intro g5 c5 w5 hown hgr
      have HO5 : Hid (OwnI3 w5 B g5 (q + 1) c5 (seeT0 (j + 1))) := by rw [see_t3a] at hown; exact hown
      have HP5 : Hid (w5.cell? ⟨gp, 0, none⟩ = some (.int .i64 p0) ∧ w5.cell? ⟨gp, 1, none⟩ = some (.int .i64 p1) ∧ w5.cell? ⟨gp, 2, none⟩ = some (.int .i64 p2)) := pl_grown HP4.out hgr (fun e => by have := Option.some.inj e; have := HO4.out.ge; omega)
      have HB5 : Hid (Below w1.heap.size w1 w5) := HB4.out.grown hgr HB4.out.size (fun m hm => by have := Option.some.inj hm; have := HO4.out.ge; omega)
      have HQ2 : Hid (q + 1 = 1 + (j + 1)) := by have := HQ.out; show _ = _; omega
      clear hown hgr HO4 HP4 HB4 HR4 HQ
      generalize q + 1 = q5 at *
      go_wp2
      go_roundg (gk - 1)
      case measure => omega
      case rel => exact ⟨j + 1, q5, g5, c5, by omega, HQ2, rfl, by go_num, HO5, HP5, HB5⟩
    · obtain rfl : j = n0 := by omega
      have hne : ¬ ((j : Int) < j) := by omega
      have qb : IntKind.i64.wrap (1 + c1) = bb := (wrap_in (by omega) (by omega)).trans HBB.out
      have qb' : 1 + c1 = bb := HBB.out
      have hBr : B ≤ wr.heap.size := Nat.le_of_lt (Nat.lt_of_le_of_lt HO.out.ge HO.out.lt)
      have HO4 : Hid (OwnI3 (wr.alloc (.cells #[.int .i64 bb, .string ⟨#[]⟩, .string ⟨#[]⟩] 44)) B g q c (seeT0 j)) := HO.out.on (alM _ _)
      have HP4 : Hid ((wr.alloc (.cells #[.int .i64 bb, .string ⟨#[]⟩, .string ⟨#[]⟩] 44)).cell? ⟨gp, 0, none⟩ = some (.int .i64 p0) ∧ (wr.alloc (.cells #[.int .i64 bb, .string ⟨#[]⟩, .string ⟨#[]⟩] 44)).cell? ⟨gp, 1, none⟩ = some (.int .i64 p1) ∧ (wr.alloc (.cells #[.int .i64 bb, .string ⟨#[]⟩, .string ⟨#[]⟩] 44)).cell? ⟨gp, 2, none⟩ = some (.int .i64 p2)) := pl_on HP.out (alM _ _)
      have HB4 : Hid (Below w1.heap.size w1 (wr.alloc (.cells #[.int .i64 bb, .string ⟨#[]⟩, .string ⟨#[]⟩] 44))) := bel_on (Nat.le_refl _) HB.out (alM _ _)
      have HR4 : Hid (RdZ (wr.alloc (.cells #[.int .i64 bb, .string ⟨#[]⟩, .string ⟨#[]⟩] 44)) (some ⟨wr.heap.size, 0, none⟩) [(bb, ⟨#[]⟩, ⟨#[]⟩)]) := (one_rowZ wr bb ⟨#[]⟩ ⟨#[]⟩).rd
      clear HO HP HB
      go_upto_region 9 with fail
      go_wp2_with (refine listZ rfl (.tmp 30) (.tmp 37) rfl B g q c (seeT0 j) (some ⟨wr.heap.size, 0, none⟩) 1 1 [(bb, ⟨#[]⟩, ⟨#[]⟩)] rfl rfl HO4.out rfl (fun e => by cases e) HR4.out (by omega) (by simp; omega) ?_)
      intro g5 c5 w5 hown hgr
      have HO5 : Hid (OwnI3 w5 B g5 (q + 1) c5 (seeT j bb 0)) := by
        rw [see_t3c] at hown
        exact hown
      have HP5 : Hid (w5.cell? ⟨gp, 0, none⟩ = some (.int .i64 p0) ∧ w5.cell? ⟨gp, 1, none⟩ = some (.int .i64 p1) ∧ w5.cell? ⟨gp, 2, none⟩ = some (.int .i64 p2)) := pl_grown HP4.out hgr (fun e => by have := Option.some.inj e; have := HO4.out.ge; omega)
      have HB5 : Hid (Below w1.heap.size w1 w5) := HB4.out.grown hgr HB4.out.size (fun m hm => by have := Option.some.inj hm; have := HO4.out.ge; omega)
      have HQ2 : Hid (q + 1 = 2 + j) := by have := HQ.out; show _ = _; omega
      clear hown hgr HO4 HP4 HB4 HR4 HQ pc0 pc1 pc2 qb qb' hq10 hBr
      generalize q + 1 = q5 at *
      generalize hnn : j = N0 at *
      obtain ⟨gk0, hgk0⟩ : ∃ gk0, gk0 = gk := ⟨_, rfl⟩
      subst hgk0
      go_wp2_with fail
      go_loopg [4, 6] n2 (fun gk s i wr => ∃ (j q g c : Nat), j + gk = n2 ∧ Hid (q = 2 + N0 + j) ∧ s = .slice (some ⟨g, 0, none⟩) q c ∧ i = .int .i64 j ∧ Hid (OwnI3 wr B g q c (seeT N0 bb j)) ∧ Hid (wr.cell? ⟨gp, 0, none⟩ = some (.int .i64 p0) ∧ wr.cell? ⟨gp, 1, none⟩ = some (.int .i64 p1) ∧ wr.cell? ⟨gp, 2, none⟩ = some (.int .i64 p2)) ∧ Hid (Below w1.heap.size w1 wr))
      case atStart => exact ⟨0, q5, g5, c5, by omega, HQ2, rfl, rfl, HO5, HP5, HB5⟩
      case round =>
        clear HO5 HP5 HB5 HQ2
        obtain ⟨j, q, g, c, hj, HQ, rfl, rfl, HO, HP, HB⟩ := hrel
        have hq10 : q ≤ 20 := by have := HQ.out; omega
        obtain ⟨pc0, pc1, pc2⟩ := HP.out
        by_cases hlt : j < n2
        · have j0 : (0 : Int) ≤ j := by omega
          have j1 : (j : Int) < n2 := by omega
          have qj : IntKind.i64.wrap ((j : Int) + 1) = (j : Int) + 1 := wrap_in (by omega) (by omega)
          have hBr : B ≤ wr.heap.size := Nat.le_of_lt (Nat.lt_of_le_of_lt HO.out.ge HO.out.lt)
          have HO4 : Hid (OwnI3 (wr.alloc (.cells #[.int .i64 0, .string ⟨#[]⟩, .string ⟨#[]⟩] 44)) B g q c (seeT N0 bb j)) := HO.out.on (alM _ _)
          have HP4 : Hid ((wr.alloc (.cells #[.int .i64 0, .string ⟨#[]⟩, .string ⟨#[]⟩] 44)).cell? ⟨gp, 0, none⟩ = some (.int .i64 p0) ∧ (wr.alloc (.cells #[.int .i64 0, .string ⟨#[]⟩, .string ⟨#[]⟩] 44)).cell? ⟨gp, 1, none⟩ = some (.int .i64 p1) ∧ (wr.alloc (.cells #[.int .i64 0, .string ⟨#[]⟩, .string ⟨#[]⟩] 44)).cell? ⟨gp, 2, none⟩ = some (.int .i64 p2)) := pl_on HP.out (alM _ _)
          have HB4 : Hid (Below w1.heap.size w1 (wr.alloc (.cells #[.int .i64 0, .string ⟨#[]⟩, .string ⟨#[]⟩] 44))) := bel_on (Nat.le_refl _) HB.out (alM _ _)
          have HR4 : Hid (RdZ (wr.alloc (.cells #[.int .i64 0, .string ⟨#[]⟩, .string ⟨#[]⟩] 44)) (some ⟨wr.heap.size, 0, none⟩) [(0, ⟨#[]⟩, ⟨#[]⟩)]) := (one_rowZ wr 0 ⟨#[]⟩ ⟨#[]⟩).rd
          clear HO HP HB
          go_upto_region 13 with fail
          clear pc0 pc1 pc2
          go_wp2_with (refine listZ rfl (.tmp 47) (.tmp 49) rfl B g q c (seeT N0 bb j) (some ⟨wr.heap.size, 0, none⟩) 1 1 [(0, ⟨#[]⟩, ⟨#[]⟩)] rfl rfl HO4.out rfl (fun e => by cases e) HR4.out (by omega) (by simp; omega) ?_)
          intro g5 c5 w5 hown hgr
          have HO5 : Hid (OwnI3 w5 B g5 (q + 1) c5 (seeT N0 bb (j + 1))) := by rw [see_t3b] at hown; exact hown
          have HP5 : Hid (w5.cell? ⟨gp, 0, none⟩ = some (.int .i64 p0) ∧ w5.cell? ⟨gp, 1, none⟩ = some (.int .i64 p1) ∧ w5.cell? ⟨gp, 2, none⟩ = some (.int .i64 p2)) := pl_grown HP4.out hgr (fun e => by have := Option.some.inj e; have := HO4.out.ge; omega)
          have HB5 : Hid (Below w1.heap.size w1 w5) := HB4.out.grown hgr HB4.out.size (fun m hm => by have := Option.some.inj hm; have := HO4.out.ge; omega)
          have HQ2 : Hid (q + 1 = 2 + N0 + (j + 1)) := by have := HQ.out; show _ = _; omega
          clear hown hgr HO4 HP4 HB4 HR4 HQ
          generalize q + 1 = q5 at *
          go_wp2
          go_roundg (gk - 1)
          case measure => omega
          case rel => exact ⟨j + 1, q5, g5, c5, by omega, HQ2, rfl, by go_num, HO5, HP5, HB5⟩
        · obtain rfl : j = n2 := by omega
          have hne2 : ¬ ((j : Int) < j) := by omega
          obtain ⟨⟨pa, la, ala, ma, ta, rfa⟩, hDa⟩ : ∃ y, runD newD ((seeL N0 bb j).map (·.i)) = y := ⟨_, rfl⟩
          obtain ⟨⟨pb, lb, alb, mb, tb, rfb⟩, hDb⟩ : ∃ y, runD newD ((seeL N0 bb j ++ [inpK [115]]).map (·.i)) = y := ⟨_, rfl⟩
          obtain ⟨hsa, _⟩ := see_a N0 j bb h08 hbb1
          obtain ⟨hsb, tt, htt, httl⟩ := see_b N0 j bb h08 hbb1
          rw [hDa] at hsa
          rw [hDb] at hsb htt
          have hga : pa.g = 2 * ((1 + N0 : Nat) : Int) := by have h := hsa.p; dsimp only at h; rw [h]
          have hgb : pb.g = 2 * ((2 + N0 : Nat) : Int) := by have h := hsb.p; dsimp only at h; rw [h]
          have HGA : Hid (pa.g = 2 * ((1 + N0 : Nat) : Int)) := hga
          have HGB : Hid (pb.g = 2 * ((2 + N0 : Nat) : Int)) := hgb
          clear hga hgb
          obtain rfl : ala = bb := hsa.al
          obtain rfl : alb = 0 := hsb.al
          dsimp only at htt
          have HDa : Hid (runD newD ((seeL N0 ala j).map (·.i)) = ⟨pa, la, ala, ma, ta, rfa⟩) := hDa
          have HDb : Hid (runD newD ((seeL N0 ala j ++ [inpK [115]]).map (·.i)) = ⟨pb, lb, 0, mb, tb, rfb⟩) := hDb
          have HTT : Hid (tb = tt ++ [(0, ala, 1), (2, 0, 1)]) := htt
          have HTL : Hid (tt.length = 1 + N0 + j) := httl
          clear hsa hsb htt httl hDa hDb
          go_wp2_with fail
          refine (runI (seeL N0 ala j) (seeL_ok (by omega)) (some ⟨g, 0, none⟩) q c (by rw [seeL_len]; have := HQ.out; omega) (by omega) pa la ala ma ta rfa HDa.out _ (Q.tab_below HT.out HB.out) (by have h := HO.out.rd; unfold seeT at h; exact h)).mono ?_
          rintro e w6 ⟨ga, na, ca, gta, tna, cta, rfl, hG, hU, hbc⟩
          clear pc0 pc1 pc2
          obtain ⟨b7, hb7⟩ : ∃ b, w6.heap.size = b := ⟨_, rfl⟩
          have hB7 : B < b7 + 1 := by have h1 := HO.out.lt; have h2 := HO.out.ge; have h3 := hbc.size; omega
          have hg7 : g < b7 := by have h1 := HO.out.lt; have h3 := hbc.size; omega
          have hgp7 : gp < b7 := by omega
          have HO6 : Hid (OwnI3 (w6.alloc (.cells #[.int .i64 0, .int .i64 0, .int .i64 0, .int .i64 0, .int .i64 0, .int .i64 0, .int .i64 0, .int .i64 0, .slice none 0 0, .int .i64 0, .int .i64 0, .bool false, .int .i64 0, .int .i64 0, .string ⟨#[]⟩, .slice none 0 0, .int .i64 0] 40)) B g q c (seeT N0 ala j)) := (HO.out.on hbc).on (alM _ _)
          have HP6 : Hid ((w6.alloc (.cells #[.int .i64 0, .int .i64 0, .int .i64 0, .int .i64 0, .int .i64 0, .int .i64 0, .int .i64 0, .int .i64 0, .slice none 0 0, .int .i64 0, .int .i64 0, .bool false, .int .i64 0, .int .i64 0, .string ⟨#[]⟩, .slice none 0 0, .int .i64 0] 40)).cell? ⟨gp, 0, none⟩ = some (.int .i64 p0) ∧ (w6.alloc (.cells #[.int .i64 0, .int .i64 0, .int .i64 0, .int .i64 0, .int .i64 0, .int .i64 0, .int .i64 0, .int .i64 0, .slice none 0 0, .int .i64 0, .int .i64 0, .bool false, .int .i64 0, .int .i64 0, .string ⟨#[]⟩, .slice none 0 0, .int .i64 0] 40)).cell? ⟨gp, 1, none⟩ = some (.int .i64 p1) ∧ (w6.alloc (.cells #[.int .i64 0, .int .i64 0, .int .i64 0, .int .i64 0, .int .i64 0, .int .i64 0, .int .i64 0, .int .i64 0, .slice none 0 0, .int .i64 0, .int .i64 0, .bool false, .int .i64 0, .int .i64 0, .string ⟨#[]⟩, .slice none 0 0, .int .i64 0] 40)).cell? ⟨gp, 2, none⟩ = some (.int .i64 p2)) := pl_on (pl_on HP.out hbc) (alM _ _)
          have HB6 : Hid (Below w1.heap.size w1 (w6.alloc (.cells #[.int .i64 0, .int .i64 0, .int .i64 0, .int .i64 0, .int .i64 0, .int .i64 0, .int .i64 0, .int .i64 0, .slice none 0 0, .int .i64 0, .int .i64 0, .bool false, .int .i64 0, .int .i64 0, .string ⟨#[]⟩, .slice none 0 0, .int .i64 0] 40))) := bel_on (Nat.le_refl _) (bel_on (Nat.le_refl _) HB.out hbc) (alM _ _)
          have HN6 : Hid ((w6.alloc (.cells #[.int .i64 0, .int .i64 0, .int .i64 0, .int .i64 0, .int .i64 0, .int .i64 0, .int .i64 0, .int .i64 0, .slice none 0 0, .int .i64 0, .int .i64 0, .bool false, .int .i64 0, .int .i64 0, .string ⟨#[]⟩, .slice none 0 0, .int .i64 0] 40)).heap[b7]? = some (.cells #[.int .i64 0, .int .i64 0, .int .i64 0, .int .i64 0, .int .i64 0, .int .i64 0, .int .i64 0, .int .i64 0, .slice none 0 0, .int .i64 0, .int .i64 0, .bool false, .int .i64 0, .int .i64 0, .string ⟨#[]⟩, .slice none 0 0, .int .i64 0] 40)) := by rw [← hb7]; exact heap_new w6 _
          clear hG hU hbc HO HP HB HDa
          go_wp2_with (refine listStoreD rfl rfl _ _ _ rfl rfl b7 #[.int .i64 pa.s, .int .i64 pa.n, .int .i64 pa.d, .int .i64 pa.r, .int .i64 pa.l, .int .i64 pa.b, .int .i64 pa.g, .int .i64 pa.k, .slice (some ⟨ga, 0, none⟩) na ca, .int .i64 ala, .int .i64 ma.a, .bool ma.b, .int .i64 ma.n, .int .i64 ma.d, .string ⟨ma.s.toArray⟩, .slice (some ⟨gta, 0, none⟩) tna cta, .int .i64 rfa] rfl rfl rfl (by kernel_rfl) HN6.out rfl ?_)
          intro w7 hput
          have HX7 : Hid (w7.heap[b7]? = some (.cells #[.int .i64 pa.s, .int .i64 pa.n, .int .i64 pa.d, .int .i64 pa.r, .int .i64 pa.l, .int .i64 pa.b, .int .i64 pa.g, .int .i64 pa.k, .slice (some ⟨ga, 0, none⟩) na ca, .int .i64 ala, .int .i64 ma.a, .bool ma.b, .int .i64 ma.n, .int .i64 ma.d, .string ⟨ma.s.toArray⟩, .slice (some ⟨gta, 0, none⟩) tna cta, .int .i64 rfa] 40)) := hput.1
          have HO7 : Hid (OwnI3 w7 B g q c (seeT N0 ala j)) := own_putM HO6.out hput (own_ne HO6.out HN6.out (by decide))
          have HP7 : Hid (w7.cell? ⟨gp, 0, none⟩ = some (.int .i64 p0) ∧ w7.cell? ⟨gp, 1, none⟩ = some (.int .i64 p1) ∧ w7.cell? ⟨gp, 2, none⟩ = some (.int .i64 p2)) := pl_put HP6.out hput (by omega)
          have HB7 : Hid (Below w1.heap.size w1 w7) := hput.2.2.2 _ _ (by omega) HB6.out
          have hs7 : b7 < w7.heap.size := row_lt HX7.out
          clear hput HO6 HP6 HB6 HN6 hb7
          obtain ⟨C, hC⟩ : ∃ C, w7.heap.size = C := ⟨_, rfl⟩
          have HE8 : Hid (OwnI3 (w7.alloc (.cells #[] 44)) C C 0 0 []) := by have h := ownI3_empty w7 C (Nat.le_of_eq hC.symm); rw [hC] at h; exact h
          have HX8 : Hid ((w7.alloc (.cells #[] 44)).heap[b7]? = some (.cells #[.int .i64 pa.s, .int .i64 pa.n, .int .i64 pa.d, .int .i64 pa.r, .int .i64 pa.l, .int .i64 pa.b, .int .i64 pa.g, .int .i64 pa.k, .slice (some ⟨ga, 0, none⟩) na ca, .int .i64 ala, .int .i64 ma.a, .bool ma.b, .int .i64 ma.n, .int .i64 ma.d, .string ⟨ma.s.toArray⟩, .slice (some ⟨gta, 0, none⟩) tna cta, .int .i64 rfa] 40)) := row_on HX7.out (alM _ _)
          have HR8 : Hid (RdZ (w7.alloc (.cells #[] 44)) (some ⟨g, 0, none⟩) (seeT N0 ala j)) := (HO7.out.on (alM _ _)).rd
          have HP8 : Hid ((w7.alloc (.cells #[] 44)).cell? ⟨gp, 0, none⟩ = some (.int .i64 p0) ∧ (w7.alloc (.cells #[] 44)).cell? ⟨gp, 1, none⟩ = some (.int .i64 p1) ∧ (w7.alloc (.cells #[] 44)).cell? ⟨gp, 2, none⟩ = some (.int .i64 p2)) := pl_on HP7.out (alM _ _)
          have HB8 : Hid (Below w1.heap.size w1 (w7.alloc (.cells #[] 44))) := bel_on (Nat.le_refl _) HB7.out (alM _ _)
          have hl8 : (seeT N0 ala j).length = q := by unfold seeT; rw [List.length_map, seeL_len]; have := HQ.out; omega
          have HL8 : Hid ((seeT N0 ala j).length = q) := hl8
          have hw1C : w1.heap.size ≤ C := by omega
          clear hl8 HX7 HO7 HP7 HB7
          go_upto_region 15 with fail
          (try rw [hC])
          go_wp2_with (refine listZ rfl (.tmp 57) (.tmp 58) rfl C C 0 0 [] (some ⟨g, 0, none⟩) q c (seeT N0 ala j) rfl rfl HE8.out HL8.out (fun e => by cases e) HR8.out (by omega) (by simp; omega) ?_)
          intro g8 c8 w8 hown hgr
          have HO9 : Hid (OwnI3 w8 C g8 q c8 (seeT N0 ala j)) := by show OwnI3 _ _ _ _ _ _; simpa using hown
          have HX9 : Hid (w8.heap[b7]? = some (.cells #[.int .i64 pa.s, .int .i64 pa.n, .int .i64 pa.d, .int .i64 pa.r, .int .i64 pa.l, .int .i64 pa.b, .int .i64 pa.g, .int .i64 pa.k, .slice (some ⟨ga, 0, none⟩) na ca, .int .i64 ala, .int .i64 ma.a, .bool ma.b, .int .i64 ma.n, .int .i64 ma.d, .string ⟨ma.s.toArray⟩, .slice (some ⟨gta, 0, none⟩) tna cta, .int .i64 rfa] 40)) := row_grown HX8.out hgr (fun e => by have := Option.some.inj e; omega)
          have HP9 : Hid (w8.cell? ⟨gp, 0, none⟩ = some (.int .i64 p0) ∧ w8.cell? ⟨gp, 1, none⟩ = some (.int .i64 p1) ∧ w8.cell? ⟨gp, 2, none⟩ = some (.int .i64 p2)) := pl_grown HP8.out hgr (fun e => by have := Option.some.inj e; omega)
          have HB9 : Hid (Below w1.heap.size w1 w8) := HB8.out.grown hgr HB8.out.size (fun m hm => by have := Option.some.inj hm; omega)
          (try rw [Nat.zero_add])
          clear hown hgr HE8 HX8 HR8 HP8 HB8
          have hC8 : C ≤ w8.heap.size := Nat.le_of_lt (Nat.lt_of_le_of_lt HO9.out.ge HO9.out.lt)
          have HO10 : Hid (OwnI3 (w8.alloc (.cells #[.int .i64 0, .string ⟨#[115]⟩, .string ⟨#[]⟩] 44)) C g8 q c8 (seeT N0 ala j)) := HO9.out.on (alM _ _)
          have HX10 : Hid ((w8.alloc (.cells #[.int .i64 0, .string ⟨#[115]⟩, .string ⟨#[]⟩] 44)).heap[b7]? = some (.cells #[.int .i64 pa.s, .int .i64 pa.n, .int .i64 pa.d, .int .i64 pa.r, .int .i64 pa.l, .int .i64 pa.b, .int .i64 pa.g, .int .i64 pa.k, .slice (some ⟨ga, 0, none⟩) na ca, .int .i64 ala, .int .i64 ma.a, .bool ma.b, .int .i64 ma.n, .int .i64 ma.d, .string ⟨ma.s.toArray⟩, .slice (some ⟨gta, 0, none⟩) tna cta, .int .i64 rfa] 40)) := row_on HX9.out (alM _ _)
          have HP10 : Hid ((w8.alloc (.cells #[.int .i64 0, .string ⟨#[115]⟩, .string ⟨#[]⟩] 44)).cell? ⟨gp, 0, none⟩ = some (.int .i64 p0) ∧ (w8.alloc (.cells #[.int .i64 0, .string ⟨#[115]⟩, .string ⟨#[]⟩] 44)).cell? ⟨gp, 1, none⟩ = some (.int .i64 p1) ∧ (w8.alloc (.cells #[.int .i64 0, .string ⟨#[115]⟩, .string ⟨#[]⟩] 44)).cell? ⟨gp, 2, none⟩ = some (.int .i64 p2)) := pl_on HP9.out (alM _ _)
          have HB10 : Hid (Below w1.heap.size w1 (w8.alloc (.cells #[.int .i64 0, .string ⟨#[115]⟩, .string ⟨#[]⟩] 44))) := bel_on (Nat.le_refl _) HB9.out (alM _ _)
          have HR10 : Hid (RdZ (w8.alloc (.cells #[.int .i64 0, .string ⟨#[115]⟩, .string ⟨#[]⟩] 44)) (some ⟨w8.heap.size, 0, none⟩) [(0, ⟨#[115]⟩, ⟨#[]⟩)]) := (one_rowZ w8 0 ⟨#[115]⟩ ⟨#[]⟩).rd
          clear HO9 HX9 HP9 HB9
          go_wp2_with (refine listZ rfl (.tmp 59) (.tmp 61) rfl C g8 q c8 (seeT N0 ala j) (some ⟨w8.heap.size, 0, none⟩) 1 1 [(0, ⟨#[115]⟩, ⟨#[]⟩)] rfl rfl HO10.out rfl (fun e => by cases e) HR10.out (by omega) (by simp; omega) ?_)
          intro g9 c9 w9 hown hgr
          have HO11 : Hid (OwnI3 w9 C g9 (q + 1) c9 ((seeL N0 ala j ++ [inpK [115]]).map Inp.t3)) := by show OwnI3 _ _ _ _ _ _; rw [List.map_append]; unfold seeT at hown; exact hown
          have hg8C := HO10.out.ge
          have HX11 : Hid (w9.heap[b7]? = some (.cells #[.int .i64 pa.s, .int .i64 pa.n, .int .i64 pa.d, .int .i64 pa.r, .int .i64 pa.l, .int .i64 pa.b, .int .i64 pa.g, .int .i64 pa.k, .slice (some ⟨ga, 0, none⟩) na ca, .int .i64 ala, .int .i64 ma.a, .bool ma.b, .int .i64 ma.n, .int .i64 ma.d, .string ⟨ma.s.toArray⟩, .slice (some ⟨gta, 0, none⟩) tna cta, .int .i64 rfa] 40)) := row_grown HX10.out hgr (fun e => by have := Option.some.inj e; omega)
          have HP11 : Hid (w9.cell? ⟨gp, 0, none⟩ = some (.int .i64 p0) ∧ w9.cell? ⟨gp, 1, none⟩ = some (.int .i64 p1) ∧ w9.cell? ⟨gp, 2, none⟩ = some (.int .i64 p2)) := pl_grown HP10.out hgr (fun e => by have := Option.some.inj e; omega)
          have HB11 : Hid (Below w1.heap.size w1 w9) := HB10.out.grown hgr HB10.out.size (fun m hm => by have := Option.some.inj hm; omega)
          clear hown hgr HO10 HX10 HP10 HB10 HR10
          go_wp2_with fail
          refine (runI (seeL N0 ala j ++ [inpK [115]]) (fun x hx => by
            rcases List.mem_append.1 hx with h | h
            · exact seeL_ok (by omega) x h
            · rw [List.mem_singleton.1 h]; exact inpS_ok) (some ⟨g9, 0, none⟩) (q + 1) c9 (by rw [List.length_append, seeL_len]; have := HQ.out; simp; omega) (by omega) pb lb 0 mb tb rfb HDb.out _ (Q.tab_below HT.out HB11.out) HO11.out.rd).mono ?_
          rintro e w12 ⟨gb, nb, cb, gtb, tnb, ctb, rfl, hG, hU, hbc⟩
          obtain ⟨b9, hb9⟩ : ∃ b, w12.heap.size = b := ⟨_, rfl⟩
          have hgtw : gtb < b9 := by have h := hU.lt; omega
          have hb79 : b7 < b9 := by have h1 := row_lt HX11.out; have h2 := hbc.size; omega
          have HU12 : Hid (OwnU (w12.alloc (.cells #[.int .i64 0, .int .i64 0, .int .i64 0, .int .i64 0, .int .i64 0, .int .i64 0, .int .i64 0, .int .i64 0, .slice none 0 0, .int .i64 0, .int .i64 0, .bool false, .int .i64 0, .int .i64 0, .string ⟨#[]⟩, .slice none 0 0, .int .i64 0] 40)) w9.heap.size gtb tnb ctb tb) := hU.on (alM _ _)
          have HX12 : Hid ((w12.alloc (.cells #[.int .i64 0, .int .i64 0, .int .i64 0, .int .i64 0, .int .i64 0, .int .i64 0, .int .i64 0, .int .i64 0, .slice none 0 0, .int .i64 0, .int .i64 0, .bool false, .int .i64 0, .int .i64 0, .string ⟨#[]⟩, .slice none 0 0, .int .i64 0] 40)).heap[b7]? = some (.cells #[.int .i64 pa.s, .int .i64 pa.n, .int .i64 pa.d, .int .i64 pa.r, .int .i64 pa.l, .int .i64 pa.b, .int .i64 pa.g, .int .i64 pa.k, .slice (some ⟨ga, 0, none⟩) na ca, .int .i64 ala, .int .i64 ma.a, .bool ma.b, .int .i64 ma.n, .int .i64 ma.d, .string ⟨ma.s.toArray⟩, .slice (some ⟨gta, 0, none⟩) tna cta, .int .i64 rfa] 40)) := row_on (row_on HX11.out hbc) (alM _ _)
          have HP12 : Hid ((w12.alloc (.cells #[.int .i64 0, .int .i64 0, .int .i64 0, .int .i64 0, .int .i64 0, .int .i64 0, .int .i64 0, .int .i64 0, .slice none 0 0, .int .i64 0, .int .i64 0, .bool false, .int .i64 0, .int .i64 0, .string ⟨#[]⟩, .slice none 0 0, .int .i64 0] 40)).cell? ⟨gp, 0, none⟩ = some (.int .i64 p0) ∧ (w12.alloc (.cells #[.int .i64 0, .int .i64 0, .int .i64 0, .int .i64 0, .int .i64 0, .int .i64 0, .int .i64 0, .int .i64 0, .slice none 0 0, .int .i64 0, .int .i64 0, .bool false, .int .i64 0, .int .i64 0, .string ⟨#[]⟩, .slice none 0 0, .int .i64 0] 40)).cell? ⟨gp, 1, none⟩ = some (.int .i64 p1) ∧ (w12.alloc (.cells #[.int .i64 0, .int .i64 0, .int .i64 0, .int .i64 0, .int .i64 0, .int .i64 0, .int .i64 0, .int .i64 0, .slice none 0 0, .int .i64 0, .int .i64 0, .bool false, .int .i64 0, .int .i64 0, .string ⟨#[]⟩, .slice none 0 0, .int .i64 0] 40)).cell? ⟨gp, 2, none⟩ = some (.int .i64 p2)) := pl_on (pl_on HP11.out hbc) (alM _ _)
          have HB12 : Hid (Below w1.heap.size w1 (w12.alloc (.cells #[.int .i64 0, .int .i64 0, .int .i64 0, .int .i64 0, .int .i64 0, .int .i64 0, .int .i64 0, .int .i64 0, .slice none 0 0, .int .i64 0, .int .i64 0, .bool false, .int .i64 0, .int .i64 0, .string ⟨#[]⟩, .slice none 0 0, .int .i64 0] 40))) := bel_on (Nat.le_refl _) (bel_on (Nat.le_refl _) HB11.out hbc) (alM _ _)
          have HN12 : Hid ((w12.alloc (.cells #[.int .i64 0, .int .i64 0, .int .i64 0, .int .i64 0, .int .i64 0, .int .i64 0, .int .i64 0, .int .i64 0, .slice none 0 0, .int .i64 0, .int .i64 0, .bool false, .int .i64 0, .int .i64 0, .string ⟨#[]⟩, .slice none 0 0, .int .i64 0] 40)).heap[b9]? = some (.cells #[.int .i64 0, .int .i64 0, .int .i64 0, .int .i64 0, .int .i64 0, .int .i64 0, .int .i64 0, .int .i64 0, .slice none 0 0, .int .i64 0, .int .i64 0, .bool false, .int .i64 0, .int .i64 0, .string ⟨#[]⟩, .slice none 0 0, .int .i64 0] 40)) := by rw [← hb9]; exact heap_new w12 _
          clear hG hU hbc HX11 HP11 HB11 HO11 HDb
          go_wp2_with (refine listStoreD rfl rfl _ _ _ rfl rfl b9 #[.int .i64 pb.s, .int .i64 pb.n, .int .i64 pb.d, .int .i64 pb.r, .int .i64 pb.l, .int .i64 pb.b, .int .i64 pb.g, .int .i64 pb.k, .slice (some ⟨gb, 0, none⟩) nb cb, .int .i64 0, .int .i64 mb.a, .bool mb.b, .int .i64 mb.n, .int .i64 mb.d, .string ⟨mb.s.toArray⟩, .slice (some ⟨gtb, 0, none⟩) tnb ctb, .int .i64 rfb] rfl rfl rfl (by kernel_rfl) HN12.out rfl ?_)
          intro w13 hput
          have HX13 : Hid (w13.heap[b7]? = some (.cells #[.int .i64 pa.s, .int .i64 pa.n, .int .i64 pa.d, .int .i64 pa.r, .int .i64 pa.l, .int .i64 pa.b, .int .i64 pa.g, .int .i64 pa.k, .slice (some ⟨ga, 0, none⟩) na ca, .int .i64 ala, .int .i64 ma.a, .bool ma.b, .int .i64 ma.n, .int .i64 ma.d, .string ⟨ma.s.toArray⟩, .slice (some ⟨gta, 0, none⟩) tna cta, .int .i64 rfa] 40)) := hput.far HX12.out (by omega)
          have HY13 : Hid (w13.heap[b9]? = some (.cells #[.int .i64 pb.s, .int .i64 pb.n, .int .i64 pb.d, .int .i64 pb.r, .int .i64 pb.l, .int .i64 pb.b, .int .i64 pb.g, .int .i64 pb.k, .slice (some ⟨gb, 0, none⟩) nb cb, .int .i64 0, .int .i64 mb.a, .bool mb.b, .int .i64 mb.n, .int .i64 mb.d, .string ⟨mb.s.toArray⟩, .slice (some ⟨gtb, 0, none⟩) tnb ctb, .int .i64 rfb] 40)) := hput.1
          have HU13 : Hid (OwnU w13 w9.heap.size gtb tnb ctb tb) := own_putM HU12.out hput (own_ne HU12.out HN12.out (by decide))
          have HP13 : Hid (w13.cell? ⟨gp, 0, none⟩ = some (.int .i64 p0) ∧ w13.cell? ⟨gp, 1, none⟩ = some (.int .i64 p1) ∧ w13.cell? ⟨gp, 2, none⟩ = some (.int .i64 p2)) := pl_put HP12.out hput (by omega)
          have HB13 : Hid (Below w1.heap.size w1 w13) := hput.2.2.2 _ _ (by omega) HB12.out
          clear hput HU12 HX12 HP12 HB12 HN12 hb9
          have htn : tnb = 3 + N0 + j := by have h := HU13.out.len; rw [HTT.out, List.length_append, HTL.out] at h; simp at h; omega
          obtain ⟨q1, hq1⟩ : ∃ q1, q = q1 + 1 := ⟨q - 1, by have := HQ.out; omega⟩
          have hrd := HU13.out.rd (by rw [HTT.out]; simp)
          obtain ⟨gq, oq, hgq, hcq⟩ := hrd
          cases hgq
          have hi1 : q < tb.length := by rw [HU13.out.len]; have := HQ.out; omega
          have hi0 : q1 < tb.length := by omega
          have k1 := (hcq q hi1).1
          have k0 := (hcq q1 hi0).1
          have v1 : tb[q] = (2, 0, 1) := by
            have h : tb[q]? = some (2, 0, 1) := by rw [HTT.out, List.getElem?_append_right (by rw [HTL.out]; have := HQ.out; omega), HTL.out, show q - (1 + N0 + j) = 1 by have := HQ.out; omega]; rfl
            rw [List.getElem?_eq_getElem hi1] at h
            exact Option.some.inj h
          have v0' : tb[q1] = (0, ala, 1) := by
            have h : tb[q1]? = some (0, ala, 1) := by rw [HTT.out, List.getElem?_append_right (by rw [HTL.out]; have := HQ.out; omega), HTL.out, show q1 - (1 + N0 + j) = 0 by have := HQ.out; omega]; rfl
            rw [List.getElem?_eq_getElem hi0] at h
            exact Option.some.inj h
          rw [v1, Nat.zero_add] at k1
          rw [v0', Nat.zero_add] at k0
          dsimp only at k1 k0
          have c7 := box17_cells HX13.out
          have c9' := box17_cells HY13.out
          have HK : SPs w13 b7 b9 gp gtb q q1 pa.g pb.g p0 p1 ala (.slice (some ⟨gtb, 0, none⟩) tnb ctb) := ⟨c7.2.2.2.2.2.2.1, c7.2.2.2.2.2.2.2.2.2.1, c9'.2.2.2.2.2.2.2.2.2.1, c9'.2.2.2.2.2.2.1, c9'.2.2.2.2.2.2.2.2.2.2.2.2.2.2.2.1, k1, k0, HP13.out.1, HP13.out.2.1⟩
          clear c7 c9' k1 k0 v1 v0' hcq HX13 HY13 HU13 HP13 HTT HTL
          obtain ⟨d0, hd0⟩ : ∃ d0 : Int, 1 + (N0 : Int) = d0 := ⟨_, rfl⟩
          have hga := HGA.out
          have hgb := HGB.out
          have qd0 : IntKind.i64.wrap (1 + (N0 : Int)) = d0 := (wrap_in (by omega) (by omega)).trans hd0
          have qd1 : IntKind.i64.wrap (2 * d0) = pa.g := (wrap_in (by omega) (by omega)).trans (by omega)
          have qd2 : IntKind.i64.wrap (pa.g + 2) = pb.g := (wrap_in (by omega) (by omega)).trans (by omega)
          have qb : IntKind.i64.wrap (1 + c1) = ala := (wrap_in (by omega) (by omega)).trans HBB.out
          have qm : IntKind.i64.wrap ((q : Int) - 1) = (q1 : Int) := (wrap_in (by omega) (by omega)).trans (by omega)
          have iq0 : (0 : Int) ≤ q := by omega
          have iq1 : (q : Int) < tnb := by have := HQ.out; omega
          have iz0 : (0 : Int) ≤ q1 := by omega
          have iz1 : (q1 : Int) < tnb := by have := HQ.out; omega
          have HQQ : Hid (q = q1 + 1) := hq1
          clear hga hgb hd0 hq1 hi1 hi0 HGA HGB htn
          go_upto_region 17 with fail
          refine wp_region_held_drew (S := fun w' => SPs w' b7 b9 gp gtb q q1 pa.g pb.g p0 p1 ala (.slice (some ⟨gtb, 0, none⟩) tnb ctb)) (by kernel_rfl) HK (fun hHeld => ?_)
          obtain ⟨v0, hv0⟩ : ∃ v0, w13.drew = v0 := ⟨_, rfl⟩
          have HB14 : Hid (Below w1.heap.size w1 v0) := by rw [← hv0]; exact HB13.out.drew
          rw [hv0] at hHeld ⊢
          clear hv0 HK HB13
          refine wpAnyH_take (i := 0) (v := ?_) rfl (by kernel_rfl) (by kernel_rfl) (by kernel_rfl) (fun _ _ _ h => h) (Or.inl ⟨by rfl, ?_⟩) (by assumption) ?_
          rotate_left
          · intro w_ hSw; (try dsimp only at hSw); clear hSw; (try clear hHeld); go_simp <;> with_reducible rfl
          try simp only [Act.put, List.setIfInBounds_toArray, List.set_cons_zero, List.set_cons_succ, List.getElem_toArray, List.getElem_cons_zero, List.getElem_cons_succ]
          refine wpAnyH_take (i := 1) (v := ?_) rfl (by kernel_rfl) (by kernel_rfl) (by kernel_rfl) (fun _ _ _ h => h) (Or.inl ⟨by rfl, ?_⟩) (by assumption) ?_
          rotate_left
          · intro w_ hSw; (try dsimp only at hSw); clear hSw; (try clear hHeld); go_simp <;> with_reducible rfl
          try simp only [Act.put, List.setIfInBounds_toArray, List.set_cons_zero, List.set_cons_succ, List.getElem_toArray, List.getElem_cons_zero, List.getElem_cons_succ]
          refine wpAnyH_take (i := 2) (v := ?_) rfl (by kernel_rfl) (by kernel_rfl) (by kernel_rfl) (fun _ _ _ h => h) (Or.inl ⟨by rfl, ?_⟩) (by assumption) ?_
          rotate_left
          · intro w_ hSw; (try dsimp only at hSw); clear hSw; (try clear hHeld); go_simp <;> with_reducible rfl
          try simp only [Act.put, List.setIfInBounds_toArray, List.set_cons_zero, List.set_cons_succ, List.getElem_toArray, List.getElem_cons_zero, List.getElem_cons_succ]
          refine wpAnyH_take (i := 3) (v := ?_) rfl (by kernel_rfl) (by kernel_rfl) (by kernel_rfl) (fun _ _ _ h => h) (Or.inl ⟨by rfl, ?_⟩) (by assumption) ?_
          rotate_left
          · intro w_ hSw; (try dsimp only at hSw); clear hSw; (try clear hHeld); go_simp <;> with_reducible rfl
          try simp only [Act.put, List.setIfInBounds_toArray, List.set_cons_zero, List.set_cons_succ, List.getElem_toArray, List.getElem_cons_zero, List.getElem_cons_succ]
          refine wpAnyH_take (i := 4) (v := ?_) rfl (by kernel_rfl) (by kernel_rfl) (by kernel_rfl) (fun _ _ _ h => h) (Or.inl ⟨by rfl, ?_⟩) (by assumption) ?_
          rotate_left
          · intro w_ hSw; (try dsimp only at hSw); clear hSw; (try clear hHeld); go_simp <;> with_reducible rfl
          try simp only [Act.put, List.setIfInBounds_toArray, List.set_cons_zero, List.set_cons_succ, List.getElem_toArray, List.getElem_cons_zero, List.getElem_cons_succ]
          refine wpAnyH_take (i := 5) (v := ?_) rfl (by kernel_rfl) (by kernel_rfl) (by kernel_rfl) (fun _ _ _ h => h) (Or.inl ⟨by rfl, ?_⟩) (by assumption) ?_
          rotate_left
          · intro w_ hSw; (try dsimp only at hSw); clear hSw; (try clear hHeld); go_simp <;> with_reducible rfl
          try simp only [Act.put, List.setIfInBounds_toArray, List.set_cons_zero, List.set_cons_succ, List.getElem_toArray, List.getElem_cons_zero, List.getElem_cons_succ]
          refine wpAnyH_take (i := 6) (v := ?_) rfl (by kernel_rfl) (by kernel_rfl) (by kernel_rfl) (fun _ _ _ h => h) (Or.inl ⟨by rfl, ?_⟩) (by assumption) ?_
          rotate_left
          · intro w_ hSw; (try dsimp only at hSw); clear hSw; (try clear hHeld); go_simp <;> with_reducible rfl
          try simp only [Act.put, List.setIfInBounds_toArray, List.set_cons_zero, List.set_cons_succ, List.getElem_toArray, List.getElem_cons_zero, List.getElem_cons_succ]
          refine wpAnyH_take (i := 7) (v := ?_) rfl (by kernel_rfl) (by kernel_rfl) (by kernel_rfl) (fun _ _ _ h => h) (Or.inl ⟨by rfl, ?_⟩) (by assumption) ?_
          rotate_left
          · intro w_ hSw; (try dsimp only at hSw); have f0 := hSw.1; clear hSw; (try clear hHeld); go_simp <;> with_reducible rfl
          try simp only [Act.put, List.setIfInBounds_toArray, List.set_cons_zero, List.set_cons_succ, List.getElem_toArray, List.getElem_cons_zero, List.getElem_cons_succ]
          refine wpAnyH_take (i := 8) (v := ?_) rfl (by kernel_rfl) (by kernel_rfl) (by kernel_rfl) (fun _ _ _ h => h) (Or.inl ⟨by rfl, ?_⟩) (by assumption) ?_
          rotate_left
          · intro w_ hSw; (try dsimp only at hSw); clear hSw; (try clear hHeld); go_simp <;> with_reducible rfl
          try simp only [Act.put, List.setIfInBounds_toArray, List.set_cons_zero, List.set_cons_succ, List.getElem_toArray, List.getElem_cons_zero, List.getElem_cons_succ]
          refine wpAnyH_take (i := 9) (v := ?_) rfl (by kernel_rfl) (by kernel_rfl) (by kernel_rfl) (fun _ _ _ h => h) (Or.inl ⟨by rfl, ?_⟩) (by assumption) ?_
          rotate_left
          · intro w_ hSw; (try dsimp only at hSw); clear hSw; (try clear hHeld); go_simp <;> with_reducible rfl
          try simp only [Act.put, List.setIfInBounds_toArray, List.set_cons_zero, List.set_cons_succ, List.getElem_toArray, List.getElem_cons_zero, List.getElem_cons_succ]
          refine wpAnyH_take (i := 10) (v := ?_) rfl (by kernel_rfl) (by kernel_rfl) (by kernel_rfl) (fun _ _ _ h => h) (Or.inl ⟨by rfl, ?_⟩) (by assumption) ?_
          rotate_left
          · intro w_ hSw; (try dsimp only at hSw); have f0 := hSw.2.2.2.2.2.2.2.1; clear hSw; (try clear hHeld); go_simp <;> with_reducible rfl
          try simp only [Act.put, List.setIfInBounds_toArray, List.set_cons_zero, List.set_cons_succ, List.getElem_toArray, List.getElem_cons_zero, List.getElem_cons_succ]
          refine wpAnyH_take (i := 11) (v := ?_) rfl (by kernel_rfl) (by kernel_rfl) (by kernel_rfl) (fun _ _ _ h => h) (Or.inl ⟨by rfl, ?_⟩) (by assumption) ?_
          rotate_left
          · intro w_ hSw; (try dsimp only at hSw); clear hSw; (try clear hHeld); go_simp <;> with_reducible rfl
          try simp only [Act.put, List.setIfInBounds_toArray, List.set_cons_zero, List.set_cons_succ, List.getElem_toArray, List.getElem_cons_zero, List.getElem_cons_succ]
          refine wpAnyH_take (i := 12) (v := ?_) rfl (by kernel_rfl) (by kernel_rfl) (by kernel_rfl) (fun _ _ _ h => h) (Or.inl ⟨by rfl, ?_⟩) (by assumption) ?_
          rotate_left
          · intro w_ hSw; (try dsimp only at hSw); clear hSw; (try clear hHeld); go_simp <;> with_reducible rfl
          try simp only [Act.put, List.setIfInBounds_toArray, List.set_cons_zero, List.set_cons_succ, List.getElem_toArray, List.getElem_cons_zero, List.getElem_cons_succ]
          refine wpAnyH_take (i := 13) (v := ?_) rfl (by kernel_rfl) (by kernel_rfl) (by kernel_rfl) (fun _ _ _ h => h) (Or.inl ⟨by rfl, ?_⟩) (by assumption) ?_
          rotate_left
          · intro w_ hSw; (try dsimp only at hSw); clear hSw; (try clear hHeld); go_simp <;> with_reducible rfl
          try simp only [Act.put, List.setIfInBounds_toArray, List.set_cons_zero, List.set_cons_succ, List.getElem_toArray, List.getElem_cons_zero, List.getElem_cons_succ]
          refine wpAnyH_take (i := 14) (v := ?_) rfl (by kernel_rfl) (by kernel_rfl) (by kernel_rfl) (fun _ _ _ h => h) (Or.inl ⟨by rfl, ?_⟩) (by assumption) ?_
          rotate_left
          · intro w_ hSw; (try dsimp only at hSw); clear hSw; (try clear hHeld); go_simp <;> with_reducible rfl
          try simp only [Act.put, List.setIfInBounds_toArray, List.set_cons_zero, List.set_cons_succ, List.getElem_toArray, List.getElem_cons_zero, List.getElem_cons_succ]
          refine wpAnyH_take (i := 15) (v := ?_) rfl (by kernel_rfl) (by kernel_rfl) (by kernel_rfl) (fun _ _ _ h => h) (Or.inl ⟨by rfl, ?_⟩) (by assumption) ?_
          rotate_left
          · intro w_ hSw; (try dsimp only at hSw); clear hSw; (try clear hHeld); go_simp <;> with_reducible rfl
          try simp only [Act.put, List.setIfInBounds_toArray, List.set_cons_zero, List.set_cons_succ, List.getElem_toArray, List.getElem_cons_zero, List.getElem_cons_succ]
          refine wpAnyH_take (i := 16) (v := ?_) rfl (by kernel_rfl) (by kernel_rfl) (by kernel_rfl) (fun _ _ _ h => h) (Or.inl ⟨by rfl, ?_⟩) (by assumption) ?_
          rotate_left
          · intro w_ hSw; (try dsimp only at hSw); clear hSw; (try clear hHeld); go_simp <;> with_reducible rfl
          try simp only [Act.put, List.setIfInBounds_toArray, List.set_cons_zero, List.set_cons_succ, List.getElem_toArray, List.getElem_cons_zero, List.getElem_cons_succ]
          refine wpAnyH_take (i := 17) (v := ?_) rfl (by kernel_rfl) (by kernel_rfl) (by kernel_rfl) (fun _ _ _ h => h) (Or.inl ⟨by rfl, ?_⟩) (by assumption) ?_
          rotate_left
          · intro w_ hSw; (try dsimp only at hSw); clear hSw; (try clear hHeld); go_simp <;> with_reducible rfl
          try simp only [Act.put, List.setIfInBounds_toArray, List.set_cons_zero, List.set_cons_succ, List.getElem_toArray, List.getElem_cons_zero, List.getElem_cons_succ]
          refine wpAnyH_take (i := 18) (v := ?_) rfl (by kernel_rfl) (by kernel_rfl) (by kernel_rfl) (fun _ _ _ h => h) (Or.inl ⟨by rfl, ?_⟩) (by assumption) ?_
          rotate_left
          · intro w_ hSw; (try dsimp only at hSw); clear hSw; (try clear hHeld); go_simp <;> with_reducible rfl
          try simp only [Act.put, List.setIfInBounds_toArray, List.set_cons_zero, List.set_cons_succ, List.getElem_toArray, List.getElem_cons_zero, List.getElem_cons_succ]
          refine wpAnyH_take (i := 19) (v := ?_) rfl (by kernel_rfl) (by kernel_rfl) (by kernel_rfl) (fun _ _ _ h => h) (Or.inl ⟨by rfl, ?_⟩) (by assumption) ?_
          rotate_left
          · intro w_ hSw; (try dsimp only at hSw); have f0 := hSw.2.1; clear hSw; (try clear hHeld); go_simp <;> with_reducible rfl
          try simp only [Act.put, List.setIfInBounds_toArray, List.set_cons_zero, List.set_cons_succ, List.getElem_toArray, List.getElem_cons_zero, List.getElem_cons_succ]
          refine wpAnyH_take (i := 20) (v := ?_) rfl (by kernel_rfl) (by kernel_rfl) (by kernel_rfl) (fun _ _ _ h => h) (Or.inl ⟨by rfl, ?_⟩) (by assumption) ?_
          rotate_left
          · intro w_ hSw; (try dsimp only at hSw); clear hSw; (try clear hHeld); go_simp <;> with_reducible rfl
          try simp only [Act.put, List.setIfInBounds_toArray, List.set_cons_zero, List.set_cons_succ, List.getElem_toArray, List.getElem_cons_zero, List.getElem_cons_succ]
          refine wpAnyH_take (i := 21) (v := ?_) rfl (by kernel_rfl) (by kernel_rfl) (by kernel_rfl) (fun _ _ _ h => h) (Or.inl ⟨by rfl, ?_⟩) (by assumption) ?_
          rotate_left
          · intro w_ hSw; (try dsimp only at hSw); clear hSw; (try clear hHeld); go_simp <;> with_reducible rfl
          try simp only [Act.put, List.setIfInBounds_toArray, List.set_cons_zero, List.set_cons_succ, List.getElem_toArray, List.getElem_cons_zero, List.getElem_cons_succ]
          refine wpAnyH_take (i := 22) (v := ?_) rfl (by kernel_rfl) (by kernel_rfl) (by kernel_rfl) (fun _ _ _ h => h) (Or.inl ⟨by rfl, ?_⟩) (by assumption) ?_
          rotate_left
          · intro w_ hSw; (try dsimp only at hSw); have f0 := hSw.2.2.2.2.2.2.2.2; clear hSw; (try clear hHeld); go_simp <;> with_reducible rfl
          try simp only [Act.put, List.setIfInBounds_toArray, List.set_cons_zero, List.set_cons_succ, List.getElem_toArray, List.getElem_cons_zero, List.getElem_cons_succ]
          refine wpAnyH_take (i := 23) (v := ?_) rfl (by kernel_rfl) (by kernel_rfl) (by kernel_rfl) (fun _ _ _ h => h) (Or.inl ⟨by rfl, ?_⟩) (by assumption) ?_
          rotate_left
          · intro w_ hSw; (try dsimp only at hSw); clear hSw; (try clear hHeld); go_simp <;> with_reducible rfl
          try simp only [Act.put, List.setIfInBounds_toArray, List.set_cons_zero, List.set_cons_succ, List.getElem_toArray, List.getElem_cons_zero, List.getElem_cons_succ]
          refine wpAnyH_take (i := 24) (v := ?_) rfl (by kernel_rfl) (by kernel_rfl) (by kernel_rfl) (fun _ _ _ h => h) (Or.inl ⟨by rfl, ?_⟩) (by assumption) ?_
          rotate_left
          · intro w_ hSw; (try dsimp only at hSw); clear hSw; (try clear hHeld); go_simp <;> with_reducible rfl
          try simp only [Act.put, List.setIfInBounds_toArray, List.set_cons_zero, List.set_cons_succ, List.getElem_toArray, List.getElem_cons_zero, List.getElem_cons_succ]
          refine wpAnyH_take (i := 25) (v := ?_) rfl (by kernel_rfl) (by kernel_rfl) (by kernel_rfl) (fun _ _ _ h => h) (Or.inl ⟨by rfl, ?_⟩) (by assumption) ?_
          rotate_left
          · intro w_ hSw; (try dsimp only at hSw); clear hSw; (try clear hHeld); go_simp <;> with_reducible rfl
          try simp only [Act.put, List.setIfInBounds_toArray, List.set_cons_zero, List.set_cons_succ, List.getElem_toArray, List.getElem_cons_zero, List.getElem_cons_succ]
          refine wpAnyH_take (i := 26) (v := ?_) rfl (by kernel_rfl) (by kernel_rfl) (by kernel_rfl) (fun _ _ _ h => h) (Or.inl ⟨by rfl, ?_⟩) (by assumption) ?_
          rotate_left
          · intro w_ hSw; (try dsimp only at hSw); clear hSw; (try clear hHeld); go_simp <;> with_reducible rfl
          try simp only [Act.put, List.setIfInBounds_toArray, List.set_cons_zero, List.set_cons_succ, List.getElem_toArray, List.getElem_cons_zero, List.getElem_cons_succ]
          refine wpAnyH_take (i := 27) (v := ?_) rfl (by kernel_rfl) (by kernel_rfl) (by kernel_rfl) (fun _ _ _ h => h) (Or.inl ⟨by rfl, ?_⟩) (by assumption) ?_
          rotate_left
          · intro w_ hSw; (try dsimp only at hSw); clear hSw; (try clear hHeld); go_simp <;> with_reducible rfl
          try simp only [Act.put, List.setIfInBounds_toArray, List.set_cons_zero, List.set_cons_succ, List.getElem_toArray, List.getElem_cons_zero, List.getElem_cons_succ]
          refine wpAnyH_take (i := 28) (v := ?_) rfl (by kernel_rfl) (by kernel_rfl) (by kernel_rfl) (fun _ _ _ h => h) (Or.inl ⟨by rfl, ?_⟩) (by assumption) ?_
          rotate_left
          · intro w_ hSw; (try dsimp only at hSw); clear hSw; (try clear hHeld); go_simp <;> with_reducible rfl
          try simp only [Act.put, List.setIfInBounds_toArray, List.set_cons_zero, List.set_cons_succ, List.getElem_toArray, List.getElem_cons_zero, List.getElem_cons_succ]
          refine wpAnyH_take (i := 29) (v := ?_) rfl (by kernel_rfl) (by kernel_rfl) (by kernel_rfl) (fun _ _ _ h => h) (Or.inl ⟨by rfl, ?_⟩) (by assumption) ?_
          rotate_left
          · intro w_ hSw; (try dsimp only at hSw); clear hSw; (try clear hHeld); go_simp <;> with_reducible rfl
          try simp only [Act.put, List.setIfInBounds_toArray, List.set_cons_zero, List.set_cons_succ, List.getElem_toArray, List.getElem_cons_zero, List.getElem_cons_succ]
          refine wpAnyH_take (i := 30) (v := ?_) rfl (by kernel_rfl) (by kernel_rfl) (by kernel_rfl) (fun _ _ _ h => h) (Or.inl ⟨by rfl, ?_⟩) (by assumption) ?_
          rotate_left
          · intro w_ hSw; (try dsimp only at hSw); have f0 := hSw.2.2.1; clear hSw; (try clear hHeld); go_simp <;> with_reducible rfl
          try simp only [Act.put, List.setIfInBounds_toArray, List.set_cons_zero, List.set_cons_succ, List.getElem_toArray, List.getElem_cons_zero, List.getElem_cons_succ]
          refine wpAnyH_take (i := 31) (v := ?_) rfl (by kernel_rfl) (by kernel_rfl) (by kernel_rfl) (fun _ _ _ h => h) (Or.inl ⟨by rfl, ?_⟩) (by assumption) ?_
          rotate_left
          · intro w_ hSw; (try dsimp only at hSw); clear hSw; (try clear hHeld); go_simp <;> with_reducible rfl
          try simp only [Act.put, List.setIfInBounds_toArray, List.set_cons_zero, List.set_cons_succ, List.getElem_toArray, List.getElem_cons_zero, List.getElem_cons_succ]
          refine wpAnyH_take (i := 32) (v := ?_) rfl (by kernel_rfl) (by kernel_rfl) (by kernel_rfl) (fun _ _ _ h => h) (Or.inl ⟨by rfl, ?_⟩) (by assumption) ?_
          rotate_left
          · intro w_ hSw; (try dsimp only at hSw); clear hSw; (try clear hHeld); go_simp <;> with_reducible rfl
          try simp only [Act.put, List.setIfInBounds_toArray, List.set_cons_zero, List.set_cons_succ, List.getElem_toArray, List.getElem_cons_zero, List.getElem_cons_succ]
          refine wpAnyH_take (i := 33) (v := ?_) rfl (by kernel_rfl) (by kernel_rfl) (by kernel_rfl) (fun _ _ _ h => h) (Or.inl ⟨by rfl, ?_⟩) (by assumption) ?_
          rotate_left
          · intro w_ hSw; (try dsimp only at hSw); clear hSw; (try clear hHeld); go_simp <;> with_reducible rfl
          try simp only [Act.put, List.setIfInBounds_toArray, List.set_cons_zero, List.set_cons_succ, List.getElem_toArray, List.getElem_cons_zero, List.getElem_cons_succ]
          refine wpAnyH_take (i := 34) (v := ?_) rfl (by kernel_rfl) (by kernel_rfl) (by kernel_rfl) (fun _ _ _ h => h) (Or.inl ⟨by rfl, ?_⟩) (by assumption) ?_
          rotate_left
          · intro w_ hSw; (try dsimp only at hSw); clear hSw; (try clear hHeld); go_simp <;> with_reducible rfl
          try simp only [Act.put, List.setIfInBounds_toArray, List.set_cons_zero, List.set_cons_succ, List.getElem_toArray, List.getElem_cons_zero, List.getElem_cons_succ]
          refine wpAnyH_take (i := 35) (v := ?_) rfl (by kernel_rfl) (by kernel_rfl) (by kernel_rfl) (fun _ _ _ h => h) (Or.inl ⟨by rfl, ?_⟩) (by assumption) ?_
          rotate_left
          · intro w_ hSw; (try dsimp only at hSw); clear hSw; (try clear hHeld); go_simp <;> with_reducible rfl
          try simp only [Act.put, List.setIfInBounds_toArray, List.set_cons_zero, List.set_cons_succ, List.getElem_toArray, List.getElem_cons_zero, List.getElem_cons_succ]
          refine wpAnyH_take (i := 36) (v := ?_) rfl (by kernel_rfl) (by kernel_rfl) (by kernel_rfl) (fun _ _ _ h => h) (Or.inl ⟨by rfl, ?_⟩) (by assumption) ?_
          rotate_left
          · intro w_ hSw; (try dsimp only at hSw); have f0 := hSw.2.2.2.1; clear hSw; (try clear hHeld); go_simp <;> with_reducible rfl
          try simp only [Act.put, List.setIfInBounds_toArray, List.set_cons_zero, List.set_cons_succ, List.getElem_toArray, List.getElem_cons_zero, List.getElem_cons_succ]
          refine wpAnyH_take (i := 37) (v := ?_) rfl (by kernel_rfl) (by kernel_rfl) (by kernel_rfl) (fun _ _ _ h => h) (Or.inl ⟨by rfl, ?_⟩) (by assumption) ?_
          rotate_left
          · intro w_ hSw; (try dsimp only at hSw); clear hSw; (try clear hHeld); go_simp <;> with_reducible rfl
          try simp only [Act.put, List.setIfInBounds_toArray, List.set_cons_zero, List.set_cons_succ, List.getElem_toArray, List.getElem_cons_zero, List.getElem_cons_succ]
          refine wpAnyH_take (i := 38) (v := ?_) rfl (by kernel_rfl) (by kernel_rfl) (by kernel_rfl) (fun _ _ _ h => h) (Or.inl ⟨by rfl, ?_⟩) (by assumption) ?_
          rotate_left
          · intro w_ hSw; (try dsimp only at hSw); clear hSw; (try clear hHeld); go_simp <;> with_reducible rfl
          try simp only [Act.put, List.setIfInBounds_toArray, List.set_cons_zero, List.set_cons_succ, List.getElem_toArray, List.getElem_cons_zero, List.getElem_cons_succ]
          refine wpAnyH_take (i := 39) (v := ?_) rfl (by kernel_rfl) (by kernel_rfl) (by kernel_rfl) (fun _ _ _ h => h) (Or.inl ⟨by rfl, ?_⟩) (by assumption) ?_
          rotate_left
          · intro w_ hSw; (try dsimp only at hSw); have f0 := hSw.1; clear hSw; (try clear hHeld); go_simp <;> with_reducible rfl
          try simp only [Act.put, List.setIfInBounds_toArray, List.set_cons_zero, List.set_cons_succ, List.getElem_toArray, List.getElem_cons_zero, List.getElem_cons_succ]
          refine wpAnyH_take (i := 40) (v := ?_) rfl (by kernel_rfl) (by kernel_rfl) (by kernel_rfl) (fun _ _ _ h => h) (Or.inl ⟨by rfl, ?_⟩) (by assumption) ?_
          rotate_left
          · intro w_ hSw; (try dsimp only at hSw); clear hSw; (try clear hHeld); go_simp <;> with_reducible rfl
          try simp only [Act.put, List.setIfInBounds_toArray, List.set_cons_zero, List.set_cons_succ, List.getElem_toArray, List.getElem_cons_zero, List.getElem_cons_succ]
          refine wpAnyH_take (i := 41) (v := ?_) rfl (by kernel_rfl) (by kernel_rfl) (by kernel_rfl) (fun _ _ _ h => h) (Or.inl ⟨by rfl, ?_⟩) (by assumption) ?_
          rotate_left
          · intro w_ hSw; (try dsimp only at hSw); clear hSw; (try clear hHeld); go_simp <;> with_reducible rfl
          try simp only [Act.put, List.setIfInBounds_toArray, List.set_cons_zero, List.set_cons_succ, List.getElem_toArray, List.getElem_cons_zero, List.getElem_cons_succ]
          refine wpAnyH_take (i := 42) (v := ?_) rfl (by kernel_rfl) (by kernel_rfl) (by kernel_rfl) (fun _ _ _ h => h) (Or.inl ⟨by rfl, ?_⟩) (by assumption) ?_
          rotate_left
          · intro w_ hSw; (try dsimp only at hSw); clear hSw; (try clear hHeld); go_simp <;> with_reducible rfl
          try simp only [Act.put, List.setIfInBounds_toArray, List.set_cons_zero, List.set_cons_succ, List.getElem_toArray, List.getElem_cons_zero, List.getElem_cons_succ]
          refine wpAnyH_take (i := 43) (v := ?_) rfl (by kernel_rfl) (by kernel_rfl) (by kernel_rfl) (fun _ _ _ h => h) (Or.inl ⟨by rfl, ?_⟩) (by assumption) ?_
          rotate_left
          · intro w_ hSw; (try dsimp only at hSw); clear hSw; (try clear hHeld); go_simp <;> with_reducible rfl
          try simp only [Act.put, List.setIfInBounds_toArray, List.set_cons_zero, List.set_cons_succ, List.getElem_toArray, List.getElem_cons_zero, List.getElem_cons_succ]
          refine wpAnyH_take (i := 44) (v := ?_) rfl (by kernel_rfl) (by kernel_rfl) (by kernel_rfl) (fun _ _ _ h => h) (Or.inl ⟨by rfl, ?_⟩) (by assumption) ?_
          rotate_left
          · intro w_ hSw; (try dsimp only at hSw); clear hSw; (try clear hHeld); go_simp <;> with_reducible rfl
          try simp only [Act.put, List.setIfInBounds_toArray, List.set_cons_zero, List.set_cons_succ, List.getElem_toArray, List.getElem_cons_zero, List.getElem_cons_succ]
          refine wpAnyH_take (i := 45) (v := ?_) rfl (by kernel_rfl) (by kernel_rfl) (by kernel_rfl) (fun _ _ _ h => h) (Or.inl ⟨by rfl, ?_⟩) (by assumption) ?_
          rotate_left
          · intro w_ hSw; (try dsimp only at hSw); have f0 := hSw.2.2.2.2.1; clear hSw; (try clear hHeld); go_simp <;> with_reducible rfl
          try simp only [Act.put, List.setIfInBounds_toArray, List.set_cons_zero, List.set_cons_succ, List.getElem_toArray, List.getElem_cons_zero, List.getElem_cons_succ]
          refine wpAnyH_take (i := 46) (v := ?_) rfl (by kernel_rfl) (by kernel_rfl) (by kernel_rfl) (fun _ _ _ h => h) (Or.inl ⟨by rfl, ?_⟩) (by assumption) ?_
          rotate_left
          · intro w_ hSw; (try dsimp only at hSw); clear hSw; (try clear hHeld); go_simp <;> with_reducible rfl
          try simp only [Act.put, List.setIfInBounds_toArray, List.set_cons_zero, List.set_cons_succ, List.getElem_toArray, List.getElem_cons_zero, List.getElem_cons_succ]
          refine wpAnyH_take (i := 47) (v := ?_) rfl (by kernel_rfl) (by kernel_rfl) (by kernel_rfl) (fun _ _ _ h => h) (Or.inl ⟨by rfl, ?_⟩) (by assumption) ?_
          rotate_left
          · intro w_ hSw; (try dsimp only at hSw); clear hSw; (try clear hHeld); go_simp <;> with_reducible rfl
          try simp only [Act.put, List.setIfInBounds_toArray, List.set_cons_zero, List.set_cons_succ, List.getElem_toArray, List.getElem_cons_zero, List.getElem_cons_succ]
          refine wpAnyH_take (i := 48) (v := ?_) rfl (by kernel_rfl) (by kernel_rfl) (by kernel_rfl) (fun _ _ _ h => h) (Or.inl ⟨by rfl, ?_⟩) (by assumption) ?_
          rotate_left
          · intro w_ hSw; (try dsimp only at hSw); clear hSw; (try clear hHeld); go_simp <;> with_reducible rfl
          try simp only [Act.put, List.setIfInBounds_toArray, List.set_cons_zero, List.set_cons_succ, List.getElem_toArray, List.getElem_cons_zero, List.getElem_cons_succ]
          refine wpAnyH_take (i := 49) (v := ?_) rfl (by kernel_rfl) (by kernel_rfl) (by kernel_rfl) (fun _ _ _ h => h) (Or.inl ⟨by rfl, ?_⟩) (by assumption) ?_
          rotate_left
          · intro w_ hSw; (try dsimp only at hSw); have f0 := hSw.2.2.2.2.2.1; clear hSw; (try clear hHeld); go_simp <;> with_reducible rfl
          try simp only [Act.put, List.setIfInBounds_toArray, List.set_cons_zero, List.set_cons_succ, List.getElem_toArray, List.getElem_cons_zero, List.getElem_cons_succ]
          refine wpAnyH_take (i := 50) (v := ?_) rfl (by kernel_rfl) (by kernel_rfl) (by kernel_rfl) (fun _ _ _ h => h) (Or.inl ⟨by rfl, ?_⟩) (by assumption) ?_
          rotate_left
          · intro w_ hSw; (try dsimp only at hSw); clear hSw; (try clear hHeld); go_simp <;> with_reducible rfl
          try simp only [Act.put, List.setIfInBounds_toArray, List.set_cons_zero, List.set_cons_succ, List.getElem_toArray, List.getElem_cons_zero, List.getElem_cons_succ]
          refine wpAnyH_take (i := 51) (v := ?_) rfl (by kernel_rfl) (by kernel_rfl) (by kernel_rfl) (fun _ _ _ h => h) (Or.inl ⟨by rfl, ?_⟩) (by assumption) ?_
          rotate_left
          · intro w_ hSw; (try dsimp only at hSw); clear hSw; (try clear hHeld); go_simp <;> with_reducible rfl
          try simp only [Act.put, List.setIfInBounds_toArray, List.set_cons_zero, List.set_cons_succ, List.getElem_toArray, List.getElem_cons_zero, List.getElem_cons_succ]
          refine wpAnyH_take (i := 52) (v := ?_) rfl (by kernel_rfl) (by kernel_rfl) (by kernel_rfl) (fun _ _ _ h => h) (Or.inl ⟨by rfl, ?_⟩) (by assumption) ?_
          rotate_left
          · intro w_ hSw; (try dsimp only at hSw); clear hSw; (try clear hHeld); go_simp <;> with_reducible rfl
          try simp only [Act.put, List.setIfInBounds_toArray, List.set_cons_zero, List.set_cons_succ, List.getElem_toArray, List.getElem_cons_zero, List.getElem_cons_succ]
          refine wpAnyH_take (i := 53) (v := ?_) rfl (by kernel_rfl) (by kernel_rfl) (by kernel_rfl) (fun _ _ _ h => h) (Or.inl ⟨by rfl, ?_⟩) (by assumption) ?_
          rotate_left
          · intro w_ hSw; (try dsimp only at hSw); clear hSw; (try clear hHeld); go_simp <;> with_reducible rfl
          try simp only [Act.put, List.setIfInBounds_toArray, List.set_cons_zero, List.set_cons_succ, List.getElem_toArray, List.getElem_cons_zero, List.getElem_cons_succ]
          refine wpAnyH_take (i := 54) (v := ?_) rfl (by kernel_rfl) (by kernel_rfl) (by kernel_rfl) (fun _ _ _ h => h) (Or.inl ⟨by rfl, ?_⟩) (by assumption) ?_
          rotate_left
          · intro w_ hSw; (try dsimp only at hSw); have f0 := hSw.2.2.2.2.1; clear hSw; (try clear hHeld); go_simp <;> with_reducible rfl
          try simp only [Act.put, List.setIfInBounds_toArray, List.set_cons_zero, List.set_cons_succ, List.getElem_toArray, List.getElem_cons_zero, List.getElem_cons_succ]
          refine wpAnyH_take (i := 55) (v := ?_) rfl (by kernel_rfl) (by kernel_rfl) (by kernel_rfl) (fun _ _ _ h => h) (Or.inl ⟨by rfl, ?_⟩) (by assumption) ?_
          rotate_left
          · intro w_ hSw; (try dsimp only at hSw); clear hSw; (try clear hHeld); go_simp <;> with_reducible rfl
          try simp only [Act.put, List.setIfInBounds_toArray, List.set_cons_zero, List.set_cons_succ, List.getElem_toArray, List.getElem_cons_zero, List.getElem_cons_succ]
          refine wpAnyH_take (i := 56) (v := ?_) rfl (by kernel_rfl) (by kernel_rfl) (by kernel_rfl) (fun _ _ _ h => h) (Or.inl ⟨by rfl, ?_⟩) (by assumption) ?_
          rotate_left
          · intro w_ hSw; (try dsimp only at hSw); clear hSw; (try clear hHeld); go_simp <;> with_reducible rfl
          try simp only [Act.put, List.setIfInBounds_toArray, List.set_cons_zero, List.set_cons_succ, List.getElem_toArray, List.getElem_cons_zero, List.getElem_cons_succ]
          refine wpAnyH_take (i := 57) (v := ?_) rfl (by kernel_rfl) (by kernel_rfl) (by kernel_rfl) (fun _ _ _ h => h) (Or.inl ⟨by rfl, ?_⟩) (by assumption) ?_
          rotate_left
          · intro w_ hSw; (try dsimp only at hSw); clear hSw; (try clear hHeld); go_simp <;> with_reducible rfl
          try simp only [Act.put, List.setIfInBounds_toArray, List.set_cons_zero, List.set_cons_succ, List.getElem_toArray, List.getElem_cons_zero, List.getElem_cons_succ]
          refine wpAnyH_take (i := 58) (v := ?_) rfl (by kernel_rfl) (by kernel_rfl) (by kernel_rfl) (fun _ _ _ h => h) (Or.inl ⟨by rfl, ?_⟩) (by assumption) ?_
          rotate_left
          · intro w_ hSw; (try dsimp only at hSw); clear hSw; (try clear hHeld); go_simp <;> with_reducible rfl
          try simp only [Act.put, List.setIfInBounds_toArray, List.set_cons_zero, List.set_cons_succ, List.getElem_toArray, List.getElem_cons_zero, List.getElem_cons_succ]
          refine wpAnyH_take (i := 59) (v := ?_) rfl (by kernel_rfl) (by kernel_rfl) (by kernel_rfl) (fun _ _ _ h => h) (Or.inl ⟨by rfl, ?_⟩) (by assumption) ?_
          rotate_left
          · intro w_ hSw; (try dsimp only at hSw); have f0 := hSw.2.2.2.2.2.2.1; clear hSw; (try clear hHeld); go_simp <;> with_reducible rfl
          try simp only [Act.put, List.setIfInBounds_toArray, List.set_cons_zero, List.set_cons_succ, List.getElem_toArray, List.getElem_cons_zero, List.getElem_cons_succ]
          refine wpAnyH_take (i := 60) (v := ?_) rfl (by kernel_rfl) (by kernel_rfl) (by kernel_rfl) (fun _ _ _ h => h) (Or.inl ⟨by rfl, ?_⟩) (by assumption) ?_
          rotate_left
          · intro w_ hSw; (try dsimp only at hSw); clear hSw; (try clear hHeld); go_simp <;> with_reducible rfl
          try simp only [Act.put, List.setIfInBounds_toArray, List.set_cons_zero, List.set_cons_succ, List.getElem_toArray, List.getElem_cons_zero, List.getElem_cons_succ]
          refine wpAnyH_take (i := 61) (v := ?_) rfl (by kernel_rfl) (by kernel_rfl) (by kernel_rfl) (fun _ _ _ h => h) (Or.inl ⟨by rfl, ?_⟩) (by assumption) ?_
          rotate_left
          · intro w_ hSw; (try dsimp only at hSw); clear hSw; (try clear hHeld); go_simp <;> with_reducible rfl
          try simp only [Act.put, List.setIfInBounds_toArray, List.set_cons_zero, List.set_cons_succ, List.getElem_toArray, List.getElem_cons_zero, List.getElem_cons_succ]
          refine wpAnyH_take (i := 62) (v := ?_) rfl (by kernel_rfl) (by kernel_rfl) (by kernel_rfl) (fun _ _ _ h => h) (Or.inl ⟨by rfl, ?_⟩) (by assumption) ?_
          rotate_left
          · intro w_ hSw; (try dsimp only at hSw); clear hSw; (try clear hHeld); go_simp <;> with_reducible rfl
          try simp only [Act.put, List.setIfInBounds_toArray, List.set_cons_zero, List.set_cons_succ, List.getElem_toArray, List.getElem_cons_zero, List.getElem_cons_succ]
          clear hHeld
          refine wpAnyH_done (by kernel_rfl) ?_ _
          go_wp2
          go_ret
          exact ⟨rfl, HB14.out⟩
end Go.Proofs.YtbcegpncledolaaDoor
