/-
  Whether two lists of numbers are the same: the specification's own function and the library's.
-/
import Derived.Test.YtfdhcchakoldpaaKInt
namespace Go.Proofs.Ytfdhcchakoldpaa
open Go.ChangeShapes Go.WideShapes Go.ChangeAt Go.RowKit Go.PlainAid
set_option linter.unusedVariables false

set_option maxRecDepth 100000 in
set_option maxHeartbeats 1000000 in
theorem sameS (a b : Option Addr) (la lb : List Int) (n m ca cb : Nat) (hla : la.length = n) (hlb : lb.length = m) (hn : n ≤ 1048576) (hm : m ≤ 1048576) (R : Bool) (hR : R = true ↔ la = lb) (w : World) (ha : Rd w a la) (hb : Rd w b lb) :
    Calls Try.prog 38 #[.slice a n ca, .slice b m cb] w fun e w' => e = .returned (.bool R) ∧ Below w.heap.size w w' := by
  by_cases hnm : n = m
  · subst hnm
    have HLA : Hid (la.length = n) := hla
    have HLB : Hid (lb.length = n) := hlb
    have HR : Hid (R = true ↔ la = lb) := hR
    by_cases hp : 0 < n
    · obtain ⟨g, o1, rfl, hcg⟩ := ha (by omega)
      obtain ⟨h, o2, rfl, hch⟩ := hb (by omega)
      have HA : Hid (∀ j (hj : j < la.length), w.cell? ⟨g, o1 + j, none⟩ = some (.int .i64 la[j])) := hcg
      have HB : Hid (∀ j (hj : j < lb.length), w.cell? ⟨h, o2 + j, none⟩ = some (.int .i64 lb[j])) := hch
      clear ha hb hcg hch hla hlb hR hm
      go_enter Try.func38, Try.ntmps38
      go_wp2
      go_loopw [5] (fun i wr => ∃ (j q : Nat), j ≤ n ∧ i = .int .i64 j ∧ wr = w.drewN q ∧ Hid (∀ k (h1 : k < la.length) (h2 : k < lb.length), k < j → la[k] = lb[k])) (fun i _ => n - (intOf i).toNat)
      case atStart => exact ⟨0, 0, Nat.zero_le _, rfl, rfl, (fun k h1 h2 h3 => by omega : ∀ k (h1 : k < la.length) (h2 : k < lb.length), k < 0 → la[k] = lb[k])⟩
      case round =>
        obtain ⟨j, q, hj, rfl, rfl, HE⟩ := hrel
        by_cases hlt : j < n
        · have hja : j < la.length := by have := HLA.out; omega
          have hjb : j < lb.length := by have := HLB.out; omega
          have c1 := HA.out j hja
          have c2 := HB.out j hjb
          obtain ⟨x, hx⟩ : ∃ x, la[j] = x := ⟨_, rfl⟩
          obtain ⟨y, hy⟩ : ∃ y, lb[j] = y := ⟨_, rfl⟩
          rw [hx] at c1
          rw [hy] at c2
          have i0 : (0 : Int) ≤ (j : Int) := by omega
          have i1 : (j : Int) < (n : Int) := by omega
          by_cases hxy : x = y
          · subst hxy
            have HN : Hid (∀ k (h1 : k < la.length) (h2 : k < lb.length), k < j + 1 → la[k] = lb[k]) := (fun k h1 h2 h3 => by
              rcases Nat.lt_succ_iff_lt_or_eq.1 h3 with h | h
              · exact HE.out k h1 h2 h
              · subst h; rw [hx, hy] : ∀ k (h1 : k < la.length) (h2 : k < lb.length), k < j + 1 → la[k] = lb[k])
            clear hx hy hja hjb HE
            go_wp2
            go_quiet (fail)
            go_wp2
            go_roundw
            case rel => exact ⟨j + 1, q + nq, by omega, by go_num, rfl, HN⟩
            case measure => simp [intOf]; omega
          · have HF : Hid (R = false) := by
              cases hr : R
              · exact (rfl : false = false)
              · exact absurd (by have e := HR.out.1 hr; subst e; rw [← hx, ← hy]) hxy
            clear hx hy hja hjb HE
            go_wp2
            go_quiet (fail)
            go_wp2
            go_ret
            rw [HF.out]
            exact ⟨rfl, below_drewN (below_drewN (Below.refl _ _) _) _⟩
        · have HT : Hid (R = true) := HR.out.2 (List.ext_getElem (by rw [HLA.out, HLB.out]) (fun k h1 h2 => HE.out k h1 h2 (by have := HLA.out; omega)))
          clear HE
          go_wp2
          go_ret
          rw [HT.out]
          exact ⟨rfl, below_drewN (Below.refl _ _) _⟩
    · obtain rfl : n = 0 := by omega
      have HT : Hid (R = true) := HR.out.2 (by rw [List.eq_nil_of_length_eq_zero HLA.out, List.eq_nil_of_length_eq_zero HLB.out])
      clear ha hb hp hla hlb hR hm
      go_enter Try.func38, Try.ntmps38
      go_wp2
      go_rounds 1
      go_ret
      rw [HT.out]
      exact ⟨rfl, Below.refl _ _⟩
  · have HF : Hid (R = false) := by
      cases hr : R
      · exact (rfl : false = false)
      · exact absurd (by have e := hR.1 hr; subst e; rw [← hla, ← hlb]) hnm
    have hnm' : ¬ (n : Int) = (m : Int) := by omega
    clear ha hb hla hlb hR
    go_enter Try.func38, Try.ntmps38
    go_wp2
    go_ret
    rw [HF.out]
    exact ⟨rfl, Below.refl _ _⟩

set_option maxRecDepth 100000 in
set_option maxHeartbeats 1000000 in
theorem sameI (a b : Option Addr) (la lb : List Int) (n m ca cb : Nat) (hla : la.length = n) (hlb : lb.length = m) (hn : n ≤ 1048576) (hm : m ≤ 1048576) (R : Bool) (hR : R = true ↔ la = lb) (w : World) (ha : Rd w a la) (hb : Rd w b lb) :
    Calls Try.prog 93 #[.slice a n ca, .slice b m cb] w fun e w' => e = .returned (.bool R) ∧ Below w.heap.size w w' := by
  by_cases hnm : n = m
  · subst hnm
    have HLA : Hid (la.length = n) := hla
    have HLB : Hid (lb.length = n) := hlb
    have HR : Hid (R = true ↔ la = lb) := hR
    by_cases hp : 0 < n
    · obtain ⟨g, o1, rfl, hcg⟩ := ha (by omega)
      obtain ⟨h, o2, rfl, hch⟩ := hb (by omega)
      have HA : Hid (∀ j (hj : j < la.length), w.cell? ⟨g, o1 + j, none⟩ = some (.int .i64 la[j])) := hcg
      have HB : Hid (∀ j (hj : j < lb.length), w.cell? ⟨h, o2 + j, none⟩ = some (.int .i64 lb[j])) := hch
      clear ha hb hcg hch hla hlb hR hm
      go_enter Try.func93, Try.ntmps93
      go_wp2
      go_loopw [13] (fun i wr => ∃ (j q : Nat), j ≤ n ∧ i = .int .i64 j ∧ wr = w.drewN q ∧ Hid (∀ k (h1 : k < la.length) (h2 : k < lb.length), k < j → la[k] = lb[k])) (fun i _ => n - (intOf i).toNat)
      case atStart => exact ⟨0, 0, Nat.zero_le _, rfl, rfl, (fun k h1 h2 h3 => by omega : ∀ k (h1 : k < la.length) (h2 : k < lb.length), k < 0 → la[k] = lb[k])⟩
      case round =>
        obtain ⟨j, q, hj, rfl, rfl, HE⟩ := hrel
        by_cases hlt : j < n
        · have hja : j < la.length := by have := HLA.out; omega
          have hjb : j < lb.length := by have := HLB.out; omega
          have c1 := HA.out j hja
          have c2 := HB.out j hjb
          obtain ⟨x, hx⟩ : ∃ x, la[j] = x := ⟨_, rfl⟩
          obtain ⟨y, hy⟩ : ∃ y, lb[j] = y := ⟨_, rfl⟩
          rw [hx] at c1
          rw [hy] at c2
          have i0 : (0 : Int) ≤ (j : Int) := by omega
          have i1 : (j : Int) < (n : Int) := by omega
          by_cases hxy : x = y
          · subst hxy
            have HN : Hid (∀ k (h1 : k < la.length) (h2 : k < lb.length), k < j + 1 → la[k] = lb[k]) := (fun k h1 h2 h3 => by
              rcases Nat.lt_succ_iff_lt_or_eq.1 h3 with h | h
              · exact HE.out k h1 h2 h
              · subst h; rw [hx, hy] : ∀ k (h1 : k < la.length) (h2 : k < lb.length), k < j + 1 → la[k] = lb[k])
            clear hx hy hja hjb HE
            go_wp2
            go_quiet (fail)
            go_wp2
            go_roundw
            case rel => exact ⟨j + 1, q + nq, by omega, by go_num, rfl, HN⟩
            case measure => simp [intOf]; omega
          · have HF : Hid (R = false) := by
              cases hr : R
              · exact (rfl : false = false)
              · exact absurd (by have e := HR.out.1 hr; subst e; rw [← hx, ← hy]) hxy
            clear hx hy hja hjb HE
            go_wp2
            go_quiet (fail)
            go_wp2
            go_ret
            rw [HF.out]
            exact ⟨rfl, below_drewN (below_drewN (Below.refl _ _) _) _⟩
        · have HT : Hid (R = true) := HR.out.2 (List.ext_getElem (by rw [HLA.out, HLB.out]) (fun k h1 h2 => HE.out k h1 h2 (by have := HLA.out; omega)))
          clear HE
          go_wp2
          go_ret
          rw [HT.out]
          exact ⟨rfl, below_drewN (Below.refl _ _) _⟩
    · obtain rfl : n = 0 := by omega
      have HT : Hid (R = true) := HR.out.2 (by rw [List.eq_nil_of_length_eq_zero HLA.out, List.eq_nil_of_length_eq_zero HLB.out])
      clear ha hb hp hla hlb hR hm
      go_enter Try.func93, Try.ntmps93
      go_wp2
      go_rounds 1
      go_ret
      rw [HT.out]
      exact ⟨rfl, Below.refl _ _⟩
  · have HF : Hid (R = false) := by
      cases hr : R
      · exact (rfl : false = false)
      · exact absurd (by have e := hR.1 hr; subst e; rw [← hla, ← hlb]) hnm
    have hnm' : ¬ (n : Int) = (m : Int) := by omega
    clear ha hb hla hlb hR
    go_enter Try.func93, Try.ntmps93
    go_wp2
    go_ret
    rw [HF.out]
    exact ⟨rfl, Below.refl _ _⟩
end Go.Proofs.Ytfdhcchakoldpaa
