/-
  Drawn plans: the contract of the specification's draw of a plan.
-/
import Derived.Test.YtfdhcchakoldpaaPlan9
import Derived.Test.YtfdhcchakoldpaaAppWin
import Derived.Test.YtfdhcchakoldpaaDraw
import Derived.Test.YtfdhcchakoldpaaPlaces
namespace Go.Proofs.Ytfdhcchakoldpaa
open Go.RowKit Go.PlainAid
set_option linter.unusedVariables false

theorem own_shapeW {w : World} {B e z n : Nat} {v : Value} {xs : List Value} (h : w.ownsRow B e z v n xs) : ∃ a cap, v = .slice a n cap := by
  rcases h.2 with ⟨rfl, e⟩ | ⟨g, cap, cur, rfl, _⟩
  · exact ⟨none, 0, by rw [e]⟩
  · exact ⟨_, cap, rfl⟩
theorem drawn_grownW {w W W' : World} {C B : Nat} {a : Option Addr} {len cap : Nat} {v : Value} (h : Drawn w W C B a len cap) (hg : W.grownBy W' v.ownBlock) (hv : ∀ g, v.ownBlock = some g → w.heap.size ≤ g) (hC : C < w.heap.size) (hB : B ≤ w.heap.size) : Drawn w W' C B a len cap :=
  ⟨cur_new (B := B) h.1 hg (fun g e => by have := hv g e; omega), code_below h.2.1 ((Below.refl _ _).grown hg (Nat.le_trans hB h.2.2.size) (fun g e => by have := hv g e; omega)), grown_new h.2.2 hg hv⟩
/-- windows of so many parts -/
def WinsOf (parts : Int) (l : List (Int × Int)) : Prop := ∀ p ∈ l, (1 ≤ p.1 ∧ p.1 ≤ parts) ∧ (1 ≤ p.2 ∧ p.2 ≤ 40)
theorem winsOf_nil (parts : Int) : WinsOf parts [] := fun p h => by cases h
theorem winsOf_add {parts : Int} {l : List (Int × Int)} {f s : Int} (h : WinsOf parts l) (hf : 1 ≤ f ∧ f ≤ parts) (hs : 1 ≤ s ∧ s ≤ 40) : WinsOf parts (l ++ [(f, s)]) := fun p hp => by
  rcases List.mem_append.1 hp with h' | h'
  · exact h p h'
  · simp at h'
    subst h'
    exact ⟨hf, hs⟩
theorem winsOf_plan {parts : Int} {l : List (Int × Int)} (h : WinsOf parts l) (hp : parts ≤ 4) (h1 : 1 ≤ l.length) (h2 : l.length ≤ 12) : PlanR l :=
  ⟨⟨h1, h2⟩, fun i hi => by have := h l[i] (List.getElem_mem hi); exact ⟨⟨this.1.1, by omega⟩, ⟨this.2.1, by omega⟩⟩⟩

set_option maxRecDepth 100000 in
set_option maxHeartbeats 2000000 in
theorem planD (C B : Nat) (a : Option Addr) (len cap : Nat) (parts : Int) (p1 : 1 ≤ parts) (p4 : parts ≤ 4) (w : World) (hC : Cur w C a len cap) (hB : B ≤ C) (hcode : CodeOk w B a len) :
    Calls Try.prog 136 #[.pointer (some ⟨C, 0, none⟩), .int .i64 parts] w fun e w' => ∃ (v : Value) (l : List (Int × Int)), e = .returned v ∧ (1 ≤ l.length ∧ l.length ≤ 5) ∧ WinsOf parts l ∧ OwnW w' w.heap.size v l ∧ Drawn w w' C B a len cap := by
  obtain ⟨i0, hi, hz0, hz1, hz2⟩ := info_parts infoR
  have hlt := cur_lt hC
  have HD0 : Hid (Drawn w (w.alloc (.cells #[] 43)) C B a len cap) := drawn_alloc ⟨hC, hcode, World.grownBy.refl _ _⟩ (by omega) _
  have HO0 : Hid (OwnW _ _ _ _) := ownW_empty w
  clear hC hcode
  go_enter Try.func136, Try.ntmps136
  go_wp2
  go_loopg [5, 6] 5 (fun gk v iv wr => ∃ (i c : Nat) (l : List (Int × Int)) (q : Option Addr), i + gk = 5 ∧ iv = .int .i64 i ∧ v = .slice q i c ∧ Hid (l.length = i) ∧ Hid (WinsOf parts l) ∧ Hid (wr.ownsRow w.heap.size 43 2 (.slice q i c) i (regsV l)) ∧ Hid (Drawn w wr C B a len cap))
  case atStart => exact ⟨0, 0, [], some ⟨w.heap.size, 0, none⟩, by omega, rfl, rfl, rfl, winsOf_nil _, HO0, HD0⟩
  case round =>
    clear HD0 HO0
    obtain ⟨i, c, l, q, hi5, rfl, rfl, HL, HA, HO, HD⟩ := hrel
    go_wp2_with fail
    refine (below28 C B a len cap 5 (by omega) (by omega) _ HD.out.1 hB HD.out.2.1).mono ?_
    rintro e w2 ⟨x, rfl, x0, x1, hD⟩
    have HD2 : Hid (Drawn w w2 C B a len cap) := drawn_trans HD.out hD
    have HO2 : Hid (w2.ownsRow w.heap.size 43 2 (.slice q i c) i (regsV l)) := own_gr HO.out hD.2.2 hlt
    clear hD HD HO
    by_cases hx : (i : Int) < 1 + x
    · go_wp2_with fail
      refine (below28 C B a len cap parts (by omega) (by omega) _ HD2.out.1 hB HD2.out.2.1).mono ?_
      rintro e w3 ⟨y, rfl, y0, y1, hD⟩
      have HD3 : Hid (Drawn w w3 C B a len cap) := drawn_trans HD2.out hD
      have HO3 : Hid (w3.ownsRow w.heap.size 43 2 (.slice q i c) i (regsV l)) := own_gr HO2.out hD.2.2 hlt
      clear hD HD2 HO2
      go_wp2_with fail
      refine (below28 C B a len cap 40 (by omega) (by omega) _ HD3.out.1 hB HD3.out.2.1).mono ?_
      rintro e w4 ⟨z, rfl, z0, z1, hD⟩
      have HD4 : Hid (Drawn w w4 C B a len cap) := drawn_trans HD3.out hD
      have HO4 : Hid (w4.ownsRow w.heap.size 43 2 (.slice q i c) i (regsV l)) := own_gr HO3.out hD.2.2 hlt
      have s4 := HD4.out.2.2.size
      clear hD HD3 HO3
      have HDa : Hid (Drawn w (w4.alloc (.cells #[.int .i64 (1 + y), .int .i64 (1 + z)] 43)) C B a len cap) := drawn_alloc HD4.out (by omega) _
      have hown := HO4.out.alloc (.cells #[.int .i64 (1 + y), .int .i64 (1 + z)] 43)
      have HG : Hid (∀ g, (Value.slice q i c).ownBlock = some g → w.heap.size ≤ g) := own_ge HO4.out
      have HA' : Hid (WinsOf parts (l ++ [(1 + y, 1 + z)])) := winsOf_add HA.out ⟨by omega, by omega⟩ ⟨by omega, by omega⟩
      clear HD4 HO4 HA
      go_wp2_with (at_builtin; refine wpList_append_own _ rfl _ _ 25 rfl w.heap.size 43 i0 (.agg #[.int .i64 0, .int .i64 0]) 2 16 Try.underlying25 hi hz0 hz1 hz2 rfl (by decide) _ _ _ rfl hown ⟨w4.heap.size, 0, none⟩ 1 1 [.int .i64 (1 + y), .int .i64 (1 + z)] rfl rfl ?c1 ?c2 ?c3 ?c4 ?c5 ?_)
      case c1 => exact two_cellR _ _ _ _ (by simp)
      case c2 => intro u hu; simp at hu; rcases hu with rfl | rfl <;> rfl
      case c3 => unfold maxLen; omega
      case c4 => omega
      case c5 => simp; omega
      intro v' w5 hown5 hgrow _
      have HD5 : Hid (Drawn w w5 C B a len cap) := drawn_grownW HDa.out hgrow HG.out hlt (by omega)
      obtain ⟨q', c', hv⟩ := own_shapeW hown5
      subst hv
      have HO5 : Hid (w5.ownsRow w.heap.size 43 2 (.slice q' (i + 1) c') (i + 1) (regsV (l ++ [(1 + y, 1 + z)]))) := by
        rw [regsV_append]
        exact hown5
      have HL5 : Hid ((l ++ [(1 + y, 1 + z)]).length = i + 1) := by show _ = _; simp; exact HL.out
      clear hown hown5 hgrow HDa HG HL
      go_wp2
      go_roundg (gk - 1)
      case measure => omega
      case rel => exact ⟨i + 1, c', l ++ [(1 + y, 1 + z)], q', by omega, by go_num, rfl, HL5, HA', HO5, HD5⟩
    · have h1 : 1 ≤ i := by omega
      have h5 : i ≤ 5 := by omega
      have HO6 : Hid (OwnW w2 w.heap.size (.slice q i c) l) := by
        show w2.ownsRow _ _ _ _ _ _
        rw [HL.out]
        exact HO2.out
      go_wp2
      go_ret
      exact ⟨_, l, rfl, ⟨by have := HL.out; omega, by have := HL.out; omega⟩, HA.out, HO6.out, HD2.out⟩
end Go.Proofs.Ytfdhcchakoldpaa
