/-
  Drawn rules, right or not; a drawn call of ActFor.
-/
import Derived.Test.YtoflahejiempfaaDrawU9
import Derived.Test.YtoflahejiempfaaRu10
namespace Go.Proofs.Ytoflahejiempfaa
open Go.RowKit Go.PlainAid
set_option linter.unusedVariables false

/-- rules of small numbers -/
def SmU (l : List Rule) : Prop := ∀ r ∈ l, (0 ≤ r.1 ∧ r.1 ≤ 9) ∧ (0 ≤ r.2.1 ∧ r.2.1 ≤ 9) ∧ (0 ≤ r.2.2 ∧ r.2.2 ≤ 9)
theorem smU_of {l : List Rule} (h : RulesR l) : SmU l := fun r hr => by
  obtain ⟨i, hi, rfl⟩ := List.mem_iff_getElem.1 hr
  obtain ⟨h1, h2, h3, _⟩ := (h.1 i hi hi).1
  exact ⟨⟨by omega, by omega⟩, ⟨by omega, by omega⟩, ⟨by omega, by omega⟩⟩
theorem smU_add {l : List Rule} {x y z : Int} (h : SmU l) (hx : 0 ≤ x ∧ x ≤ 9) (hy : 0 ≤ y ∧ y ≤ 9) (hz : 0 ≤ z ∧ z ≤ 9) : SmU (l ++ [(x, y, z)]) := fun r hr => by
  rcases List.mem_append.1 hr with h' | h'
  · exact h r h'
  · simp at h'
    subst h'
    exact ⟨hx, hy, hz⟩
theorem wf_small {n : Int} (h : 0 ≤ n ∧ n ≤ 9) : wfI n := WalkArith.wf_i64 (by omega)
theorem SmU.wf {l : List Rule} (h : SmU l) : WfU l := fun j hj => by
  obtain ⟨h1, h2, h3⟩ := h l[j] (List.getElem_mem hj)
  exact ⟨wf_small h1, wf_small h2, wf_small h3⟩
theorem three_cellU (wr : World) (x y z : Value) (a : Addr) (ha : a = ⟨wr.heap.size, 0, none⟩) : ∀ j u, [x, y, z][j]? = some u → (wr.alloc (.cells #[x, y, z] 30)).cell? (a.add j) = some u := by
  intro j u hj
  subst ha
  match j, hj with
  | 0, hj => simp at hj; subst hj; simp [Addr.add]
  | 1, hj => simp at hj; subst hj; simp [Addr.add]
  | 2, hj => simp at hj; subst hj; simp [Addr.add]

set_option maxRecDepth 100000 in
set_option maxHeartbeats 2000000 in
theorem anyU (C B : Nat) (a : Option Addr) (len cap : Nat) (w : World) (hC : Cur w C a len cap) (hB : B ≤ C) (hcode : CodeOk w B a len) :
    Calls Try.prog 16 #[.pointer (some ⟨C, 0, none⟩)] w fun e w' => ∃ (v : Value) (n : Nat) (l : List Rule), e = .returned v ∧ n ≤ 9 ∧ SmU l ∧ OwnU w' w.heap.size v n l ∧ Drawn w w' C B a len cap := by
  obtain ⟨i0, hi, hz0, hz1, hz2⟩ := info_parts infoU
  have hlt := cur_lt hC
  go_enter Try.func16, Try.ntmps16
  go_wp2_with fail
  refine (rulesD C B a len cap 4 (by omega) (by omega) _ hC hB hcode).mono ?_
  rintro e w1 ⟨v, n, l, rfl, hR, _, hO, hD⟩
  have hn : n ≤ 8 := by have := hR.2; have := hO.len; omega
  have HS : Hid (SmU l) := smU_of hR
  have HD1 : Hid (Drawn w w1 C B a len cap) := hD
  obtain ⟨q, c, rfl⟩ := own_shapeW hO
  have HO1 : Hid (OwnU w1 w.heap.size (.slice q n c) n l) := hO
  clear hR hO hD hC hcode
  go_wp2_with fail
  refine (P.onceR C B a len cap 4 (by omega) (by omega) _ HD1.out.1 hB HD1.out.2.1).mono ?_
  rintro e w2 ⟨bo, rfl, hD⟩
  have HD2 : Hid (Drawn w w2 C B a len cap) := drawn_trans HD1.out hD
  have HO2 : Hid (OwnU w2 w.heap.size (.slice q n c) n l) := own_gr HO1.out hD.2.2 hlt
  clear hD HD1 HO1
  cases bo
  · go_wp2
    go_ret
    exact ⟨_, n, l, rfl, by omega, HS.out, HO2.out, HD2.out⟩
  · go_wp2_with fail
    refine (below28 C B a len cap 6 (by omega) (by omega) _ HD2.out.1 hB HD2.out.2.1).mono ?_
    rintro e w3 ⟨x, rfl, x0, x1, hD⟩
    have HD3 : Hid (Drawn w w3 C B a len cap) := drawn_trans HD2.out hD
    have HO3 : Hid (OwnU w3 w.heap.size (.slice q n c) n l) := own_gr HO2.out hD.2.2 hlt
    clear hD HD2 HO2
    go_wp2_with fail
    refine (below28 C B a len cap 4 (by omega) (by omega) _ HD3.out.1 hB HD3.out.2.1).mono ?_
    rintro e w4 ⟨y, rfl, y0, y1, hD⟩
    have HD4 : Hid (Drawn w w4 C B a len cap) := drawn_trans HD3.out hD
    have HO4 : Hid (OwnU w4 w.heap.size (.slice q n c) n l) := own_gr HO3.out hD.2.2 hlt
    clear hD HD3 HO3
    go_wp2_with fail
    refine (below28 C B a len cap 6 (by omega) (by omega) _ HD4.out.1 hB HD4.out.2.1).mono ?_
    rintro e w5 ⟨z, rfl, z0, z1, hD⟩
    have HD5 : Hid (Drawn w w5 C B a len cap) := drawn_trans HD4.out hD
    have HO5 : Hid (OwnU w5 w.heap.size (.slice q n c) n l) := own_gr HO4.out hD.2.2 hlt
    have s5 := HD5.out.2.2.size
    clear hD HD4 HO4
    have HDa : Hid (Drawn w (w5.alloc (.cells #[.int .i64 x, .int .i64 y, .int .i64 z] 30)) C B a len cap) := drawn_alloc HD5.out (by omega) _
    have hown : (w5.alloc (.cells #[.int .i64 x, .int .i64 y, .int .i64 z] 30)).ownsRow w.heap.size 30 3 (.slice q n c) n (rulV l) := World.ownsRow.alloc HO5.out _
    have HG : Hid (∀ g, (Value.slice q n c).ownBlock = some g → w.heap.size ≤ g) := own_ge HO5.out
    have HS' : Hid (SmU (l ++ [(x, y, z)])) := smU_add HS.out ⟨by omega, by omega⟩ ⟨by omega, by omega⟩ ⟨by omega, by omega⟩
    clear HD5 HO5 HS
    go_wp2_with (at_builtin; refine wpList_append_own _ rfl _ _ 24 rfl w.heap.size 30 i0 (.agg #[.int .i64 0, .int .i64 0, .int .i64 0]) 3 24 Try.underlying24 hi hz0 hz1 hz2 rfl (by decide) _ _ _ rfl hown ⟨w5.heap.size, 0, none⟩ 1 1 [.int .i64 x, .int .i64 y, .int .i64 z] rfl rfl ?c1 ?c2 ?c3 ?c4 ?c5 ?_)
    case c1 => exact three_cellU _ _ _ _ _ (by simp)
    case c2 => intro u hu; simp at hu; rcases hu with rfl | rfl | rfl <;> rfl
    case c3 => unfold maxLen; omega
    case c4 => omega
    case c5 => simp; omega
    intro v' w6 hown6 hgrow _
    have HD6 : Hid (Drawn w w6 C B a len cap) := drawn_grownW HDa.out hgrow HG.out hlt (by omega)
    obtain ⟨q', c', hv⟩ := own_shapeW hown6
    subst hv
    have HO6 : Hid (OwnU w6 w.heap.size (.slice q' (n + 1) c') (n + 1) (l ++ [(x, y, z)])) := by
      show World.ownsRow _ _ _ _ _ _ _
      rw [rulV_append]
      exact hown6
    clear hown hown6 hgrow HDa HG
    go_wp2
    go_ret
    exact ⟨_, n + 1, _, rfl, by omega, HS'.out, HO6.out, HD6.out⟩

set_option maxRecDepth 100000 in
set_option maxHeartbeats 2000000 in
theorem drawAct (a : Option Addr) (len cap : Nat) (w : World) (hcode : CodeOk w w.heap.size a len) :
    Calls Try.prog 7 #[.slice a len cap] w fun e w' => ∃ (q : Option Addr) (n c : Nat) (l : List Rule) (p f s : Int), e = .returned (.tuple #[.slice q n c, .int .i64 p, .int .i64 f, .int .i64 s]) ∧ l.length = n ∧ n ≤ 9 ∧ SmU l ∧ RdU w' q l ∧ (1 ≤ p ∧ p ≤ 4) ∧ (1 ≤ f ∧ f ≤ 2) ∧ (0 ≤ s ∧ s ≤ 4) ∧ Below w.heap.size w w' := by
  go_enter Try.func7, Try.ntmps7
  go_wp2_with fail
  refine (new23 w.heap.size a len cap _ hcode (Nat.le_refl _)).mono ?_
  rintro e w1 ⟨C, rfl, hC, hcur, hcode1, hb1⟩
  have HB1 : Hid (Below w.heap.size w w1) := hb1
  have HD1 : Hid (Cur w1 C a len cap ∧ CodeOk w1 w.heap.size a len) := ⟨hcur, hcode1⟩
  have hlt := cur_lt hcur
  have s1 := hb1.size
  clear hb1 hcur hcode1 hcode
  go_wp2_with fail
  refine (anyU C w.heap.size a len cap _ HD1.out.1 hC HD1.out.2).mono ?_
  rintro e w2 ⟨v, n, l, rfl, hn, hS, hO, hD⟩
  obtain ⟨q, c, rfl⟩ := own_shapeW hO
  have HS : Hid (SmU l) := hS
  have HD2 : Hid (Drawn w1 w2 C w.heap.size a len cap) := hD
  have HO2 : Hid (OwnU w2 w1.heap.size (.slice q n c) n l) := hO
  clear hS hO hD HD1
  go_wp2_with fail
  refine (below28 C w.heap.size a len cap 4 (by omega) (by omega) _ HD2.out.1 hC HD2.out.2.1).mono ?_
  rintro e w3 ⟨x, rfl, x0, x1, hD⟩
  have HD3 : Hid (Drawn w1 w3 C w.heap.size a len cap) := drawn_trans HD2.out hD
  have HO3 : Hid (OwnU w3 w1.heap.size (.slice q n c) n l) := own_gr HO2.out hD.2.2 hlt
  clear hD HD2 HO2
  go_wp2_with fail
  refine (below28 C w.heap.size a len cap 2 (by omega) (by omega) _ HD3.out.1 hC HD3.out.2.1).mono ?_
  rintro e w4 ⟨y, rfl, y0, y1, hD⟩
  have HD4 : Hid (Drawn w1 w4 C w.heap.size a len cap) := drawn_trans HD3.out hD
  have HO4 : Hid (OwnU w4 w1.heap.size (.slice q n c) n l) := own_gr HO3.out hD.2.2 hlt
  clear hD HD3 HO3
  go_wp2_with fail
  refine (below28 C w.heap.size a len cap 5 (by omega) (by omega) _ HD4.out.1 hC HD4.out.2.1).mono ?_
  rintro e w5 ⟨z, rfl, z0, z1, hD⟩
  have HD5 : Hid (Drawn w1 w5 C w.heap.size a len cap) := drawn_trans HD4.out hD
  have HO5 : Hid (OwnU w5 w1.heap.size (.slice q n c) n l) := own_gr HO4.out hD.2.2 hlt
  clear hD HD4 HO4
  have HB5 : Hid (Below w.heap.size w w5) := by
    have hg := HD5.out.2.2
    have hb := HB1.out
    exact ⟨hg.os.trans hb.os, hg.tape.trans hb.tape, hg.output.trans hb.output, Nat.le_trans hb.size hg.size, fun i hi => (hg.block i (by omega) (fun e => by cases e; omega)).trans (hb.block i hi)⟩
  clear HB1 HD5
  go_wp2
  refine bodyPost_ret (v := .tuple #[.slice q n c, .int .i64 (1 + x), .int .i64 (1 + y), .int .i64 z]) (by simp [results, Try.results7, go_sem]) rfl ?_
  exact ⟨q, n, c, l, 1 + x, 1 + y, z, rfl, HO5.out.len, hn, HS.out, HO5.out.rd, ⟨by omega, by omega⟩, ⟨by omega, by omega⟩, ⟨by omega, by omega⟩, HB5.out⟩
end Go.Proofs.Ytoflahejiempfaa
