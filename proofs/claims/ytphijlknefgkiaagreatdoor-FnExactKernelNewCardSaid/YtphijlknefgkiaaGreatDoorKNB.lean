/-
  A region that draws its order, in which three variables are made whenever it likes, beside a chain of operations: it goes by stages, one for each operation of the chain, whichever of the three are there.
-/
import Derived.Deep.RegionHeld3
import Derived.Test.YtphijlknefgkiaaGreatDoorBase
import Derived.Test.YtphijlknefgkiaaGreatDoorLst11
import Derived.Test.YtphijlknefgkiaaGreatDoorKNA
import Derived.Test.YtphijlknefgkiaaGreatDoorKer
import Derived.Test.YtphijlknefgkiaaGreatDoorLineW
import Derived.Deep.CutBlock
import Derived.Test.YtphijlknefgkiaaGreatDoorFaultS
namespace Go.Proofs.YtphijlknefgkiaaGreatDoor
open Go.RowKit Go.PlainAid
set_option linter.unusedVariables false

theorem put_self (a : Act) (d : Nat) : a.put (some d) (a.tmps.getD d undef) = a := by
  cases a with
  | mk tmps defers =>
    simp only [Act.put]
    congr 1
    apply Array.ext_getElem?
    intro i
    rw [Array.getElem?_setIfInBounds]
    by_cases h : d = i
    · subst h
      by_cases h2 : d < tmps.size
      · simp [h2, Array.getD]
      · simp [h2]
    · simp [h]
def remB (x y z : Bool) : Nat := (if x then 0 else 1) + (if y then 0 else 1) + (if z then 0 else 1)
section
variable {P : Program} {md : Region.Mode} {ops : Array Oper} {Q : Exit → Act → World → Prop} {S : World → Prop}

/-- one more operation of the chain, c; i1, i2, i3 make the variables -/
theorem stage3 {i1 i2 i3 c : Nat} (L L' : Bool → Bool → Bool → Array Bool) (St St' : Bool → Bool → Bool → Act → World → Prop) (K : Nat)
    (hr : ∀ x y z, ∀ i ∈ Region.ready md ops (L x y z), i = c ∨ (i = i1 ∧ x = false) ∨ (i = i2 ∧ y = false) ∨ (i = i3 ∧ z = false))
    (hne : ∀ x y z, Region.ready md ops (L x y z) ≠ [])
    (h1 : ∀ y z, (L false y z).setIfInBounds i1 true = L true y z) (h2 : ∀ x z, (L x false z).setIfInBounds i2 true = L x true z) (h3 : ∀ x y, (L x y false).setIfInBounds i3 true = L x y true)
    (hc : ∀ x y z, (L x y z).setIfInBounds c true = L' x y z)
    (s1 : ∀ y z a w, S w → St false y z a w → wpOp P ops Q i1 (fun a' w' => S w' ∧ St true y z a' w') a w)
    (s2 : ∀ x z a w, S w → St x false z a w → wpOp P ops Q i2 (fun a' w' => S w' ∧ St x true z a' w') a w)
    (s3 : ∀ x y a w, S w → St x y false a w → wpOp P ops Q i3 (fun a' w' => S w' ∧ St x y true a' w') a w)
    (sc : ∀ x y z a w, S w → St x y z a w → wpOp P ops Q c (fun a' w' => S w' ∧ St' x y z a' w') a w)
    (next : ∀ x y z f a w, K + remB x y z ≤ f → S w → St' x y z a w → wpAnyH P md ops Q S f (L' x y z) a w) :
    ∀ x y z f a w, K + 1 + remB x y z ≤ f → S w → St x y z a w → wpAnyH P md ops Q S f (L x y z) a w := by
  have key : ∀ n x y z f a w, remB x y z = n → K + 1 + n ≤ f → S w → St x y z a w → wpAnyH P md ops Q S f (L x y z) a w := by
    intro n
    induction n with
    | zero =>
      intro x y z f a w hn hf hS hSt
      obtain ⟨f', rfl⟩ : ∃ f', f = f' + 1 := ⟨f - 1, by omega⟩
      refine ⟨fun h => absurd h (hne x y z), fun i hi => ?_⟩
      rcases hr x y z i hi with rfl | ⟨rfl, rfl⟩ | ⟨rfl, rfl⟩ | ⟨rfl, rfl⟩
      · exact wpOp_mono (fun a' w' h => ⟨h.1, by rw [hc]; exact next x y z f' a' w' (by omega) h.1 h.2⟩) (sc x y z a w hS hSt)
      · simp [remB] at hn
      · simp [remB] at hn
      · simp [remB] at hn
    | succ n ih =>
      intro x y z f a w hn hf hS hSt
      obtain ⟨f', rfl⟩ : ∃ f', f = f' + 1 := ⟨f - 1, by omega⟩
      refine ⟨fun h => absurd h (hne x y z), fun i hi => ?_⟩
      rcases hr x y z i hi with rfl | ⟨rfl, rfl⟩ | ⟨rfl, rfl⟩ | ⟨rfl, rfl⟩
      · exact wpOp_mono (fun a' w' h => ⟨h.1, by rw [hc]; exact next x y z f' a' w' (by omega) h.1 h.2⟩) (sc x y z a w hS hSt)
      · exact wpOp_mono (fun a' w' h => ⟨h.1, by rw [h1]; exact ih true y z f' a' w' (by simp [remB] at hn ⊢; omega) (by omega) h.1 h.2⟩) (s1 y z a w hS hSt)
      · exact wpOp_mono (fun a' w' h => ⟨h.1, by rw [h2]; exact ih x true z f' a' w' (by simp [remB] at hn ⊢; omega) (by omega) h.1 h.2⟩) (s2 x z a w hS hSt)
      · exact wpOp_mono (fun a' w' h => ⟨h.1, by rw [h3]; exact ih x y true f' a' w' (by simp [remB] at hn ⊢; omega) (by omega) h.1 h.2⟩) (s3 x y a w hS hSt)
  exact fun x y z f a w hf hS hSt => key _ x y z f a w rfl hf hS hSt

/-- the chain is over: what is left to be made is made -/
theorem stage3e {i1 i2 i3 : Nat} (L : Bool → Bool → Bool → Array Bool) (St : Bool → Bool → Bool → Act → World → Prop) (K : Nat)
    (hr : ∀ x y z, (x = false ∨ y = false ∨ z = false) → ∀ i ∈ Region.ready md ops (L x y z), (i = i1 ∧ x = false) ∨ (i = i2 ∧ y = false) ∨ (i = i3 ∧ z = false))
    (hne : ∀ x y z, Region.ready md ops (L x y z) ≠ [])
    (h1 : ∀ y z, (L false y z).setIfInBounds i1 true = L true y z) (h2 : ∀ x z, (L x false z).setIfInBounds i2 true = L x true z) (h3 : ∀ x y, (L x y false).setIfInBounds i3 true = L x y true)
    (s1 : ∀ y z a w, S w → St false y z a w → wpOp P ops Q i1 (fun a' w' => S w' ∧ St true y z a' w') a w)
    (s2 : ∀ x z a w, S w → St x false z a w → wpOp P ops Q i2 (fun a' w' => S w' ∧ St x true z a' w') a w)
    (s3 : ∀ x y a w, S w → St x y false a w → wpOp P ops Q i3 (fun a' w' => S w' ∧ St x y true a' w') a w)
    (fin : ∀ f a w, K ≤ f → S w → St true true true a w → wpAnyH P md ops Q S f (L true true true) a w) :
    ∀ x y z f a w, K + remB x y z ≤ f → S w → St x y z a w → wpAnyH P md ops Q S f (L x y z) a w := by
  have key : ∀ n x y z f a w, remB x y z = n → K + n ≤ f → S w → St x y z a w → wpAnyH P md ops Q S f (L x y z) a w := by
    intro n
    induction n with
    | zero =>
      intro x y z f a w hn hf hS hSt
      have hx : x = true := by cases x <;> simp [remB] at hn ⊢
      have hy : y = true := by cases y <;> simp [remB] at hn ⊢
      have hz : z = true := by cases z <;> simp [remB] at hn ⊢
      subst hx hy hz
      exact fin f a w (by omega) hS hSt
    | succ n ih =>
      intro x y z f a w hn hf hS hSt
      obtain ⟨f', rfl⟩ : ∃ f', f = f' + 1 := ⟨f - 1, by omega⟩
      have hp : x = false ∨ y = false ∨ z = false := by cases x <;> cases y <;> cases z <;> simp [remB] at hn ⊢
      refine ⟨fun h => absurd h (hne x y z), fun i hi => ?_⟩
      rcases hr x y z hp i hi with ⟨rfl, rfl⟩ | ⟨rfl, rfl⟩ | ⟨rfl, rfl⟩
      · exact wpOp_mono (fun a' w' h => ⟨h.1, by rw [h1]; exact ih true y z f' a' w' (by simp [remB] at hn ⊢; omega) (by omega) h.1 h.2⟩) (s1 y z a w hS hSt)
      · exact wpOp_mono (fun a' w' h => ⟨h.1, by rw [h2]; exact ih x true z f' a' w' (by simp [remB] at hn ⊢; omega) (by omega) h.1 h.2⟩) (s2 x z a w hS hSt)
      · exact wpOp_mono (fun a' w' h => ⟨h.1, by rw [h3]; exact ih x y true f' a' w' (by simp [remB] at hn ⊢; omega) (by omega) h.1 h.2⟩) (s3 x y a w hS hSt)
  exact fun x y z f a w hf hS hSt => key _ x y z f a w rfl hf hS hSt

/-- an operation that yields whatever the world, taken ahead of all others -/
theorem stageT {i : Nat} {oi : Oper} (hi : ops[i]? = some oi) (hs : Region.noSelect ops = true) (L L' : Bool → Bool → Bool → Array Bool) (St St' : Bool → Bool → Bool → Act → World → Prop) (K : Nat)
    (hf : ∀ x y z, Region.free md ops (L x y z) i = true) (hr : ∀ x y z, (Region.ready md ops (L x y z)).contains i = true)
    (hc : ∀ x y z, (L x y z).setIfInBounds i true = L' x y z)
    (hQ : ∀ v c a w, Q (.panic c) (a.put oi.dst v) w → Q (.panic c) a w)
    (hy : ∀ x y z a w, S w → St x y z a w → ∃ v, YieldsIf P ops S oi v a ∧ St' x y z (a.put oi.dst v) w)
    (next : ∀ x y z f a w, K + remB x y z ≤ f → S w → St' x y z a w → wpAnyH P md ops Q S f (L' x y z) a w) :
    ∀ x y z f a w, K + 1 + remB x y z ≤ f → S w → St x y z a w → wpAnyH P md ops Q S f (L x y z) a w := by
  intro x y z f a w hf' hS hSt
  obtain ⟨f', rfl⟩ : ∃ f', f = f' + 1 := ⟨f - 1, by omega⟩
  obtain ⟨v, hy1, hy2⟩ := hy x y z a w hS hSt
  refine wpAnyH_take hi hs (hf x y z) (hr x y z) (hQ v) hy1 hS ?_
  rw [hc]
  exact next x y z f' _ w (by omega) hS hy2

theorem mem_kernel {l : Array Bool} {rs : List Nat} {i : Nat} (h : Region.ready md ops l = rs) (hi : i ∈ Region.ready md ops l) : i ∈ rs := h ▸ hi
theorem ne_kernel {l : Array Bool} {rs : List Nat} (h : Region.ready md ops l = rs) (hn : rs ≠ []) : Region.ready md ops l ≠ [] := h ▸ hn
theorem main_go {L : Bool → Bool → Bool → Array Bool} {St : Bool → Bool → Bool → Act → World → Prop} {K : Nat}
    (h : ∀ x y z f a w, K + remB x y z ≤ f → S w → St x y z a w → wpAnyH P md ops Q S f (L x y z) a w) {fuel : Nat} {listed : Array Bool} {a : Act} {w : World} (hl : listed = L false false false) (hf : K + 3 ≤ fuel) (hS : S w) (hSt : St false false false a w) : wpAnyH P md ops Q S fuel listed a w := by
  subst hl; exact h false false false fuel a w hf hS hSt
theorem wpAnyH_named {fuel : Nat} {listed : Array Bool} {a : Act} {w : World} (h : ∀ a0, a0 = a → wpAnyH P md ops Q S fuel listed a0 w) : wpAnyH P md ops Q S fuel listed a w := h a rfl
end
end Go.Proofs.YtphijlknefgkiaaGreatDoor

namespace Go.Proofs.YtphijlknefgkiaaGreatDoor
open Go.ChangeShapes Go.WideShapes Go.ChangeAt Go.RowKit Go.PlainAid
set_option linter.unusedVariables false

/-- n marks from k on, 2 each -/
def mrM (k : Nat) : Nat → List (Int × Int)
  | 0 => []
  | n + 1 => ((k : Int), (k : Int) + 1) :: mrM (k + 2) n
theorem mrM_len : ∀ (n k : Nat), (mrM k n).length = n
  | 0, _ => rfl
  | n + 1, k => by simp [mrM, mrM_len n]
theorem mrM_snoc : ∀ (j k : Nat), mrM k (j + 1) = mrM k j ++ [(((k : Int) + 2 * (j : Int)), ((k : Int) + 2 * (j : Int)) + 1)]
  | 0, k => by simp [mrM]
  | j + 1, k => by
    rw [mrM, mrM_snoc j (k + 2), mrM, List.cons_append, show ((k + 2 : Nat) : Int) + 2 * (j : Int) = (k : Int) + 2 * ((j + 1 : Nat) : Int) by omega]
theorem mrM_at : ∀ (n k j : Nat) (h : j < (mrM k n).length), (mrM k n)[j] = (((k : Int) + 2 * (j : Int)), ((k : Int) + 2 * (j : Int)) + 1)
  | 0, k, j, h => by simp [mrM] at h
  | n + 1, k, 0, h => by simp [mrM]
  | n + 1, k, j + 1, h => by
    have h' : j < (mrM (k + 2) n).length := by simpa [mrM] using h
    have := mrM_at n (k + 2) j h'
    simp only [mrM, List.getElem_cons_succ]
    rw [this, show ((k + 2 : Nat) : Int) + 2 * (j : Int) = (k : Int) + 2 * ((j + 1 : Nat) : Int) by omega]
def mrX (l : List (Int × Int)) (k j : Nat) : List (Int × Int) := mrM k j ++ l.drop j
theorem mrX_len {l : List (Int × Int)} {k j : Nat} (h : j ≤ l.length) : (mrX l k j).length = l.length := by
  unfold mrX; rw [List.length_append, mrM_len, List.length_drop]; omega
theorem mrX_set {l : List (Int × Int)} {k j : Nat} (h : j < l.length) : (mrX l k j).set j (((k : Int) + 2 * (j : Int)), ((k : Int) + 2 * (j : Int)) + 1) = mrX l k (j + 1) := by
  unfold mrX
  rw [List.set_append_right _ _ (by rw [mrM_len]; omega), mrM_len, Nat.sub_self, List.drop_eq_getElem_cons h, List.set_cons_zero, mrM_snoc]
  simp
theorem mrX_all (l : List (Int × Int)) (k : Nat) : mrX l k l.length = mrM k l.length := by unfold mrX; simp

set_option maxRecDepth 100000 in
set_option maxHeartbeats 2000000 in
theorem mrMark (l : List (Int × Int)) (v : Value) (B n k : Nat) (K : Int) (hK : K = k) (hl : l.length = n) (hn : n ≤ 1048576) (hk : k ≤ 1000000) (w : World) (hown : OwnRn w B v n l) (hB : B ≤ w.heap.size) :
    Calls Tryz.prog 39 #[v, .int .i64 K] w fun e w' => e = .returned (.int .i64 (K + 2 * n)) ∧ OwnRn w' B v n (mrM k n) ∧ Below B w w' ∧ w.grownBy w' v.ownBlock := by
  subst hK
  by_cases hp : 0 < n
  · obtain ⟨g, cap, rfl, hg⟩ : ∃ g cap, v = .slice (some ⟨g, 0, none⟩) n cap ∧ B ≤ g := by
      rcases hown.2 with ⟨rfl, e⟩ | ⟨g, cap, cur, rfl, hg, _⟩
      · omega
      · exact ⟨g, cap, rfl, hg⟩
    have HL : Hid (l.length = n) := hl
    have HO0 : Hid (w.ownsRow B 94 2 (.slice (some ⟨g, 0, none⟩) n cap) n (R.regsV l)) := hown
    clear hown hl
    go_enter Tryz.func39, Tryz.ntmps39
    go_wp2
    go_loopg [1, 5] n (fun gk kv i wr => ∃ j : Nat, j + gk = n ∧ kv = .int .i64 ((k : Int) + 2 * (j : Int)) ∧ i = .int .i64 j ∧ Hid (wr.ownsRow B 94 2 (.slice (some ⟨g, 0, none⟩) n cap) n (R.regsV (mrX l k j))) ∧ Hid (Below B w wr) ∧ Hid (w.grownBy wr (some g)))
    case atStart => exact ⟨0, by omega, by simp, rfl, HO0, Below.refl _ _, World.grownBy.refl _ _⟩
    case round =>
      clear HO0
      obtain ⟨j, hj, rfl, rfl, HO, HW, HG⟩ := hrel
      by_cases hlt : j < n
      · have hjl : j < l.length := by have := HL.out; omega
        have hm : (mrX l k j).length = n := by rw [mrX_len (by omega)]; exact HL.out
        have hat := R.regsV_at (mrX l k j) j (by omega)
        have h0 := HO.out
        have c0 := h0.cellAt (j * 2) (by omega)
        rw [hat.1] at c0
        have d0 := h0.frozenAt (j * 2)
        have h1 := (h0.stored (j * 2) (.int .i64 ((k : Int) + 2 * (j : Int)))).1
        have c1 := h1.cellAt (j * 2 + 1) (by omega)
        rw [List.getElem?_set_ne (by omega), hat.2] at c1
        have d1 := h1.frozenAt (j * 2 + 1)
        have h2 := (h1.stored (j * 2 + 1) (.int .i64 ((((k : Int) + 2 * (j : Int)) + 1)))).1
        have HS : Hid (((wr.setCell ⟨g, j * 2, none⟩ (.int .i64 ((k : Int) + 2 * (j : Int)))).setCell ⟨g, j * 2 + 1, none⟩ (.int .i64 ((((k : Int) + 2 * (j : Int)) + 1)))).ownsRow B 94 2 (.slice (some ⟨g, 0, none⟩) n cap) n (R.regsV (mrX l k (j + 1)))) := by
          have hh := h2
          rw [R.regsV_set, mrX_set hjl] at hh
          exact hh
        have HW' : Hid (Below B w ((wr.setCell ⟨g, j * 2, none⟩ (.int .i64 ((k : Int) + 2 * (j : Int)))).setCell ⟨g, j * 2 + 1, none⟩ (.int .i64 ((((k : Int) + 2 * (j : Int)) + 1))))) := (HW.out.setCell hg _).setCell hg _
        have HG' : Hid (w.grownBy ((wr.setCell ⟨g, j * 2, none⟩ (.int .i64 ((k : Int) + 2 * (j : Int)))).setCell ⟨g, j * 2 + 1, none⟩ (.int .i64 ((((k : Int) + 2 * (j : Int)) + 1)))) (some g)) := (grown_setc (grown_setc HG.out _) _)
        generalize (mrX l k j)[j].1 = q0 at *
        generalize (mrX l k j)[j].2 = q1 at *
        clear hat h0 h1 h2 hm HO HW HG hjl
        go_wp2
        go_roundg (gk - 1)
        case measure => omega
        case rel => exact ⟨j + 1, by omega, by go_num, by go_num, HS, HW', HG'⟩
      · obtain rfl : j = n := by omega
        have HO' : Hid (OwnRn wr B (.slice (some ⟨g, 0, none⟩) j cap) j (mrM k j)) := by
          have h := HO.out
          have e := mrX_all l k
          rw [HL.out] at e
          rw [e] at h
          exact h
        clear HO
        go_wp2
        go_ret
        exact ⟨by go_num, HO'.out, HW.out, HG.out⟩
  · obtain rfl : n = 0 := by omega
    obtain rfl : l = [] := List.length_eq_zero_iff.1 hl
    obtain ⟨a, cap, rfl⟩ := own_shapeW hown
    have HO : Hid (OwnRn w B (.slice a 0 cap) 0 []) := hown
    clear hown
    go_enter Tryz.func39, Tryz.ntmps39
    go_wp2
    go_rounds 1
    go_ret
    exact ⟨by simp, HO.out, Below.refl _ _, World.grownBy.refl _ _⟩

set_option maxRecDepth 100000 in
set_option maxHeartbeats 1000000 in
theorem mrHeld (a : Option Addr) (n k cap : Nat) (K : Int) (hK : K = k) (hn : n ≤ 1048576) (hk : k ≤ 1000000) (w : World) (hr : R.RdR w a (mrM k n)) :
    Calls Tryz.prog 81 #[.slice a n cap, .int .i64 K] w fun e w' => e = .returned (.int .i64 (K + 2 * n)) ∧ w' = w := by
  subst hK
  by_cases hp : 0 < n
  · obtain ⟨g, off, rfl, hc⟩ := hr (by rw [mrM_len]; exact hp)
    have HC : Hid (∀ j (h : j < (mrM k n).length), w.cell? ⟨g, off + j * 2, none⟩ = some (.int .i64 (mrM k n)[j].1) ∧ w.cell? ⟨g, off + j * 2 + 1, none⟩ = some (.int .i64 (mrM k n)[j].2)) := hc
    clear hr hc
    go_enter Tryz.func81, Tryz.ntmps81
    go_wp2
    go_loopg [1, 5] n (fun gk kv i wr => ∃ j : Nat, j + gk = n ∧ kv = .int .i64 ((k : Int) + 2 * (j : Int)) ∧ i = .int .i64 j ∧ wr = w)
    case atStart => exact ⟨0, by omega, by simp, rfl, rfl⟩
    case round =>
      obtain ⟨j, hj, rfl, rfl, rfl⟩ := hrel
      by_cases hlt : j < n
      · have hjl : j < (mrM k n).length := by rw [mrM_len]; exact hlt
        have c := HC.out j hjl
        rw [mrM_at] at c
        obtain ⟨c0, c1⟩ := c
        clear hjl
        go_wp2
        go_roundg (gk - 1)
        case measure => omega
        case rel => exact ⟨j + 1, by omega, by go_num, by go_num, rfl⟩
      · obtain rfl : j = n := by omega
        go_wp2
        go_ret
        exact ⟨by go_num, rfl⟩
  · obtain rfl : n = 0 := by omega
    clear hr
    go_enter Tryz.func81, Tryz.ntmps81
    go_wp2
    go_rounds 1
    go_ret
    exact ⟨by simp, rfl⟩
/-- n marks from k on, 2 each -/
def mwM (k : Nat) : Nat → List (Int × Int)
  | 0 => []
  | n + 1 => ((k : Int), (k : Int) + 1) :: mwM (k + 2) n
theorem mwM_len : ∀ (n k : Nat), (mwM k n).length = n
  | 0, _ => rfl
  | n + 1, k => by simp [mwM, mwM_len n]
theorem mwM_snoc : ∀ (j k : Nat), mwM k (j + 1) = mwM k j ++ [(((k : Int) + 2 * (j : Int)), ((k : Int) + 2 * (j : Int)) + 1)]
  | 0, k => by simp [mwM]
  | j + 1, k => by
    rw [mwM, mwM_snoc j (k + 2), mwM, List.cons_append, show ((k + 2 : Nat) : Int) + 2 * (j : Int) = (k : Int) + 2 * ((j + 1 : Nat) : Int) by omega]
theorem mwM_at : ∀ (n k j : Nat) (h : j < (mwM k n).length), (mwM k n)[j] = (((k : Int) + 2 * (j : Int)), ((k : Int) + 2 * (j : Int)) + 1)
  | 0, k, j, h => by simp [mwM] at h
  | n + 1, k, 0, h => by simp [mwM]
  | n + 1, k, j + 1, h => by
    have h' : j < (mwM (k + 2) n).length := by simpa [mwM] using h
    have := mwM_at n (k + 2) j h'
    simp only [mwM, List.getElem_cons_succ]
    rw [this, show ((k + 2 : Nat) : Int) + 2 * (j : Int) = (k : Int) + 2 * ((j + 1 : Nat) : Int) by omega]
def mwX (l : List (Int × Int)) (k j : Nat) : List (Int × Int) := mwM k j ++ l.drop j
theorem mwX_len {l : List (Int × Int)} {k j : Nat} (h : j ≤ l.length) : (mwX l k j).length = l.length := by
  unfold mwX; rw [List.length_append, mwM_len, List.length_drop]; omega
theorem mwX_set {l : List (Int × Int)} {k j : Nat} (h : j < l.length) : (mwX l k j).set j (((k : Int) + 2 * (j : Int)), ((k : Int) + 2 * (j : Int)) + 1) = mwX l k (j + 1) := by
  unfold mwX
  rw [List.set_append_right _ _ (by rw [mwM_len]; omega), mwM_len, Nat.sub_self, List.drop_eq_getElem_cons h, List.set_cons_zero, mwM_snoc]
  simp
theorem mwX_all (l : List (Int × Int)) (k : Nat) : mwX l k l.length = mwM k l.length := by unfold mwX; simp

set_option maxRecDepth 100000 in
set_option maxHeartbeats 2000000 in
theorem mwMark (l : List (Int × Int)) (v : Value) (B n k : Nat) (K : Int) (hK : K = k) (hl : l.length = n) (hn : n ≤ 1048576) (hk : k ≤ 1000000) (w : World) (hown : OwnWn w B v n l) (hB : B ≤ w.heap.size) :
    Calls Tryz.prog 40 #[v, .int .i64 K] w fun e w' => e = .returned (.int .i64 (K + 2 * n)) ∧ OwnWn w' B v n (mwM k n) ∧ Below B w w' ∧ w.grownBy w' v.ownBlock := by
  subst hK
  by_cases hp : 0 < n
  · obtain ⟨g, cap, rfl, hg⟩ : ∃ g cap, v = .slice (some ⟨g, 0, none⟩) n cap ∧ B ≤ g := by
      rcases hown.2 with ⟨rfl, e⟩ | ⟨g, cap, cur, rfl, hg, _⟩
      · omega
      · exact ⟨g, cap, rfl, hg⟩
    have HL : Hid (l.length = n) := hl
    have HO0 : Hid (w.ownsRow B 98 2 (.slice (some ⟨g, 0, none⟩) n cap) n (regsV l)) := hown
    clear hown hl
    go_enter Tryz.func40, Tryz.ntmps40
    go_wp2
    go_loopg [1, 5] n (fun gk kv i wr => ∃ j : Nat, j + gk = n ∧ kv = .int .i64 ((k : Int) + 2 * (j : Int)) ∧ i = .int .i64 j ∧ Hid (wr.ownsRow B 98 2 (.slice (some ⟨g, 0, none⟩) n cap) n (regsV (mwX l k j))) ∧ Hid (Below B w wr) ∧ Hid (w.grownBy wr (some g)))
    case atStart => exact ⟨0, by omega, by simp, rfl, HO0, Below.refl _ _, World.grownBy.refl _ _⟩
    case round =>
      clear HO0
      obtain ⟨j, hj, rfl, rfl, HO, HW, HG⟩ := hrel
      by_cases hlt : j < n
      · have hjl : j < l.length := by have := HL.out; omega
        have hm : (mwX l k j).length = n := by rw [mwX_len (by omega)]; exact HL.out
        have hat := regsV_at (mwX l k j) j (by omega)
        have h0 := HO.out
        have c0 := h0.cellAt (j * 2) (by omega)
        rw [hat.1] at c0
        have d0 := h0.frozenAt (j * 2)
        have h1 := (h0.stored (j * 2) (.int .i64 ((k : Int) + 2 * (j : Int)))).1
        have c1 := h1.cellAt (j * 2 + 1) (by omega)
        rw [List.getElem?_set_ne (by omega), hat.2] at c1
        have d1 := h1.frozenAt (j * 2 + 1)
        have h2 := (h1.stored (j * 2 + 1) (.int .i64 ((((k : Int) + 2 * (j : Int)) + 1)))).1
        have HS : Hid (((wr.setCell ⟨g, j * 2, none⟩ (.int .i64 ((k : Int) + 2 * (j : Int)))).setCell ⟨g, j * 2 + 1, none⟩ (.int .i64 ((((k : Int) + 2 * (j : Int)) + 1)))).ownsRow B 98 2 (.slice (some ⟨g, 0, none⟩) n cap) n (regsV (mwX l k (j + 1)))) := by
          have hh := h2
          rw [regsV_set, mwX_set hjl] at hh
          exact hh
        have HW' : Hid (Below B w ((wr.setCell ⟨g, j * 2, none⟩ (.int .i64 ((k : Int) + 2 * (j : Int)))).setCell ⟨g, j * 2 + 1, none⟩ (.int .i64 ((((k : Int) + 2 * (j : Int)) + 1))))) := (HW.out.setCell hg _).setCell hg _
        have HG' : Hid (w.grownBy ((wr.setCell ⟨g, j * 2, none⟩ (.int .i64 ((k : Int) + 2 * (j : Int)))).setCell ⟨g, j * 2 + 1, none⟩ (.int .i64 ((((k : Int) + 2 * (j : Int)) + 1)))) (some g)) := (grown_setc (grown_setc HG.out _) _)
        generalize (mwX l k j)[j].1 = q0 at *
        generalize (mwX l k j)[j].2 = q1 at *
        clear hat h0 h1 h2 hm HO HW HG hjl
        go_wp2
        go_roundg (gk - 1)
        case measure => omega
        case rel => exact ⟨j + 1, by omega, by go_num, by go_num, HS, HW', HG'⟩
      · obtain rfl : j = n := by omega
        have HO' : Hid (OwnWn wr B (.slice (some ⟨g, 0, none⟩) j cap) j (mwM k j)) := by
          have h := HO.out
          have e := mwX_all l k
          rw [HL.out] at e
          rw [e] at h
          exact h
        clear HO
        go_wp2
        go_ret
        exact ⟨by go_num, HO'.out, HW.out, HG.out⟩
  · obtain rfl : n = 0 := by omega
    obtain rfl : l = [] := List.length_eq_zero_iff.1 hl
    obtain ⟨a, cap, rfl⟩ := own_shapeW hown
    have HO : Hid (OwnWn w B (.slice a 0 cap) 0 []) := hown
    clear hown
    go_enter Tryz.func40, Tryz.ntmps40
    go_wp2
    go_rounds 1
    go_ret
    exact ⟨by simp, HO.out, Below.refl _ _, World.grownBy.refl _ _⟩

set_option maxRecDepth 100000 in
set_option maxHeartbeats 1000000 in
theorem mwHeld (a : Option Addr) (n k cap : Nat) (K : Int) (hK : K = k) (hn : n ≤ 1048576) (hk : k ≤ 1000000) (w : World) (hr : RdR w a (mwM k n)) :
    Calls Tryz.prog 82 #[.slice a n cap, .int .i64 K] w fun e w' => e = .returned (.int .i64 (K + 2 * n)) ∧ w' = w := by
  subst hK
  by_cases hp : 0 < n
  · obtain ⟨g, off, rfl, hc⟩ := hr (by rw [mwM_len]; exact hp)
    have HC : Hid (∀ j (h : j < (mwM k n).length), w.cell? ⟨g, off + j * 2, none⟩ = some (.int .i64 (mwM k n)[j].1) ∧ w.cell? ⟨g, off + j * 2 + 1, none⟩ = some (.int .i64 (mwM k n)[j].2)) := hc
    clear hr hc
    go_enter Tryz.func82, Tryz.ntmps82
    go_wp2
    go_loopg [1, 5] n (fun gk kv i wr => ∃ j : Nat, j + gk = n ∧ kv = .int .i64 ((k : Int) + 2 * (j : Int)) ∧ i = .int .i64 j ∧ wr = w)
    case atStart => exact ⟨0, by omega, by simp, rfl, rfl⟩
    case round =>
      obtain ⟨j, hj, rfl, rfl, rfl⟩ := hrel
      by_cases hlt : j < n
      · have hjl : j < (mwM k n).length := by rw [mwM_len]; exact hlt
        have c := HC.out j hjl
        rw [mwM_at] at c
        obtain ⟨c0, c1⟩ := c
        clear hjl
        go_wp2
        go_roundg (gk - 1)
        case measure => omega
        case rel => exact ⟨j + 1, by omega, by go_num, by go_num, rfl⟩
      · obtain rfl : j = n := by omega
        go_wp2
        go_ret
        exact ⟨by go_num, rfl⟩
  · obtain rfl : n = 0 := by omega
    clear hr
    go_enter Tryz.func82, Tryz.ntmps82
    go_wp2
    go_rounds 1
    go_ret
    exact ⟨by simp, rfl⟩
/-- n marks from k on, 3 each -/
def muM (k : Nat) : Nat → List (Int × Int × Int)
  | 0 => []
  | n + 1 => ((k : Int), (k : Int) + 1, (k : Int) + 2) :: muM (k + 3) n
theorem muM_len : ∀ (n k : Nat), (muM k n).length = n
  | 0, _ => rfl
  | n + 1, k => by simp [muM, muM_len n]
theorem muM_snoc : ∀ (j k : Nat), muM k (j + 1) = muM k j ++ [(((k : Int) + 3 * (j : Int)), ((k : Int) + 3 * (j : Int)) + 1, ((k : Int) + 3 * (j : Int)) + 2)]
  | 0, k => by simp [muM]
  | j + 1, k => by
    rw [muM, muM_snoc j (k + 3), muM, List.cons_append, show ((k + 3 : Nat) : Int) + 3 * (j : Int) = (k : Int) + 3 * ((j + 1 : Nat) : Int) by omega]
theorem muM_at : ∀ (n k j : Nat) (h : j < (muM k n).length), (muM k n)[j] = (((k : Int) + 3 * (j : Int)), ((k : Int) + 3 * (j : Int)) + 1, ((k : Int) + 3 * (j : Int)) + 2)
  | 0, k, j, h => by simp [muM] at h
  | n + 1, k, 0, h => by simp [muM]
  | n + 1, k, j + 1, h => by
    have h' : j < (muM (k + 3) n).length := by simpa [muM] using h
    have := muM_at n (k + 3) j h'
    simp only [muM, List.getElem_cons_succ]
    rw [this, show ((k + 3 : Nat) : Int) + 3 * (j : Int) = (k : Int) + 3 * ((j + 1 : Nat) : Int) by omega]
def muX (l : List (Int × Int × Int)) (k j : Nat) : List (Int × Int × Int) := muM k j ++ l.drop j
theorem muX_len {l : List (Int × Int × Int)} {k j : Nat} (h : j ≤ l.length) : (muX l k j).length = l.length := by
  unfold muX; rw [List.length_append, muM_len, List.length_drop]; omega
theorem muX_set {l : List (Int × Int × Int)} {k j : Nat} (h : j < l.length) : (muX l k j).set j (((k : Int) + 3 * (j : Int)), ((k : Int) + 3 * (j : Int)) + 1, ((k : Int) + 3 * (j : Int)) + 2) = muX l k (j + 1) := by
  unfold muX
  rw [List.set_append_right _ _ (by rw [muM_len]; omega), muM_len, Nat.sub_self, List.drop_eq_getElem_cons h, List.set_cons_zero, muM_snoc]
  simp
theorem muX_all (l : List (Int × Int × Int)) (k : Nat) : muX l k l.length = muM k l.length := by unfold muX; simp

set_option maxRecDepth 100000 in
set_option maxHeartbeats 2000000 in
theorem muMark (l : List (Int × Int × Int)) (v : Value) (B n k : Nat) (K : Int) (hK : K = k) (hl : l.length = n) (hn : n ≤ 1048576) (hk : k ≤ 1000000) (w : World) (hown : OwnU w B v n l) (hB : B ≤ w.heap.size) :
    Calls Tryz.prog 42 #[v, .int .i64 K] w fun e w' => e = .returned (.int .i64 (K + 3 * n)) ∧ OwnU w' B v n (muM k n) ∧ Below B w w' ∧ w.grownBy w' v.ownBlock := by
  subst hK
  by_cases hp : 0 < n
  · obtain ⟨g, cap, rfl, hg⟩ : ∃ g cap, v = .slice (some ⟨g, 0, none⟩) n cap ∧ B ≤ g := by
      rcases hown.2 with ⟨rfl, e⟩ | ⟨g, cap, cur, rfl, hg, _⟩
      · omega
      · exact ⟨g, cap, rfl, hg⟩
    have HL : Hid (l.length = n) := hl
    have HO0 : Hid (w.ownsRow B 104 3 (.slice (some ⟨g, 0, none⟩) n cap) n (rulV l)) := hown
    clear hown hl
    go_enter Tryz.func42, Tryz.ntmps42
    go_wp2
    go_loopg [1, 5] n (fun gk kv i wr => ∃ j : Nat, j + gk = n ∧ kv = .int .i64 ((k : Int) + 3 * (j : Int)) ∧ i = .int .i64 j ∧ Hid (wr.ownsRow B 104 3 (.slice (some ⟨g, 0, none⟩) n cap) n (rulV (muX l k j))) ∧ Hid (Below B w wr) ∧ Hid (w.grownBy wr (some g)))
    case atStart => exact ⟨0, by omega, by simp, rfl, HO0, Below.refl _ _, World.grownBy.refl _ _⟩
    case round =>
      clear HO0
      obtain ⟨j, hj, rfl, rfl, HO, HW, HG⟩ := hrel
      by_cases hlt : j < n
      · have hjl : j < l.length := by have := HL.out; omega
        have hm : (muX l k j).length = n := by rw [muX_len (by omega)]; exact HL.out
        have hat := rulV_at (muX l k j) j (by omega)
        have h0 := HO.out
        have c0 := h0.cellAt (j * 3) (by omega)
        rw [hat.1] at c0
        have d0 := h0.frozenAt (j * 3)
        have h1 := (h0.stored (j * 3) (.int .i64 ((k : Int) + 3 * (j : Int)))).1
        have c1 := h1.cellAt (j * 3 + 1) (by omega)
        rw [List.getElem?_set_ne (by omega), hat.2.1] at c1
        have d1 := h1.frozenAt (j * 3 + 1)
        have h2 := (h1.stored (j * 3 + 1) (.int .i64 ((((k : Int) + 3 * (j : Int)) + 1)))).1
        have c2 := h2.cellAt (j * 3 + 2) (by omega)
        rw [List.getElem?_set_ne (by omega), List.getElem?_set_ne (by omega), hat.2.2] at c2
        have d2 := h2.frozenAt (j * 3 + 2)
        have h3 := (h2.stored (j * 3 + 2) (.int .i64 ((((k : Int) + 3 * (j : Int)) + 2)))).1
        have HS : Hid ((((wr.setCell ⟨g, j * 3, none⟩ (.int .i64 ((k : Int) + 3 * (j : Int)))).setCell ⟨g, j * 3 + 1, none⟩ (.int .i64 ((((k : Int) + 3 * (j : Int)) + 1)))).setCell ⟨g, j * 3 + 2, none⟩ (.int .i64 ((((k : Int) + 3 * (j : Int)) + 2)))).ownsRow B 104 3 (.slice (some ⟨g, 0, none⟩) n cap) n (rulV (muX l k (j + 1)))) := by
          have hh := h3
          rw [rulV_set, muX_set hjl] at hh
          exact hh
        have HW' : Hid (Below B w (((wr.setCell ⟨g, j * 3, none⟩ (.int .i64 ((k : Int) + 3 * (j : Int)))).setCell ⟨g, j * 3 + 1, none⟩ (.int .i64 ((((k : Int) + 3 * (j : Int)) + 1)))).setCell ⟨g, j * 3 + 2, none⟩ (.int .i64 ((((k : Int) + 3 * (j : Int)) + 2))))) := ((HW.out.setCell hg _).setCell hg _).setCell hg _
        have HG' : Hid (w.grownBy (((wr.setCell ⟨g, j * 3, none⟩ (.int .i64 ((k : Int) + 3 * (j : Int)))).setCell ⟨g, j * 3 + 1, none⟩ (.int .i64 ((((k : Int) + 3 * (j : Int)) + 1)))).setCell ⟨g, j * 3 + 2, none⟩ (.int .i64 ((((k : Int) + 3 * (j : Int)) + 2)))) (some g)) := (grown_setc (grown_setc (grown_setc HG.out _) _) _)
        generalize (muX l k j)[j].1 = q0 at *
        generalize (muX l k j)[j].2.1 = q1 at *
        generalize (muX l k j)[j].2.2 = q2 at *
        clear hat h0 h1 h2 h3 hm HO HW HG hjl
        go_wp2
        go_roundg (gk - 1)
        case measure => omega
        case rel => exact ⟨j + 1, by omega, by go_num, by go_num, HS, HW', HG'⟩
      · obtain rfl : j = n := by omega
        have HO' : Hid (OwnU wr B (.slice (some ⟨g, 0, none⟩) j cap) j (muM k j)) := by
          have h := HO.out
          have e := muX_all l k
          rw [HL.out] at e
          rw [e] at h
          exact h
        clear HO
        go_wp2
        go_ret
        exact ⟨by go_num, HO'.out, HW.out, HG.out⟩
  · obtain rfl : n = 0 := by omega
    obtain rfl : l = [] := List.length_eq_zero_iff.1 hl
    obtain ⟨a, cap, rfl⟩ := own_shapeW hown
    have HO : Hid (OwnU w B (.slice a 0 cap) 0 []) := hown
    clear hown
    go_enter Tryz.func42, Tryz.ntmps42
    go_wp2
    go_rounds 1
    go_ret
    exact ⟨by simp, HO.out, Below.refl _ _, World.grownBy.refl _ _⟩

set_option maxRecDepth 100000 in
set_option maxHeartbeats 1000000 in
theorem muHeld (a : Option Addr) (n k cap : Nat) (K : Int) (hK : K = k) (hn : n ≤ 1048576) (hk : k ≤ 1000000) (w : World) (hr : RdU w a (muM k n)) :
    Calls Tryz.prog 84 #[.slice a n cap, .int .i64 K] w fun e w' => e = .returned (.int .i64 (K + 3 * n)) ∧ w' = w := by
  subst hK
  by_cases hp : 0 < n
  · obtain ⟨g, off, rfl, hc⟩ := hr (by rw [muM_len]; exact hp)
    have HC : Hid (∀ j (h : j < (muM k n).length), w.cell? ⟨g, off + j * 3, none⟩ = some (.int .i64 (muM k n)[j].1) ∧ w.cell? ⟨g, off + j * 3 + 1, none⟩ = some (.int .i64 (muM k n)[j].2.1) ∧ w.cell? ⟨g, off + j * 3 + 2, none⟩ = some (.int .i64 (muM k n)[j].2.2)) := hc
    clear hr hc
    go_enter Tryz.func84, Tryz.ntmps84
    go_wp2
    go_loopg [1, 5] n (fun gk kv i wr => ∃ j : Nat, j + gk = n ∧ kv = .int .i64 ((k : Int) + 3 * (j : Int)) ∧ i = .int .i64 j ∧ wr = w)
    case atStart => exact ⟨0, by omega, by simp, rfl, rfl⟩
    case round =>
      obtain ⟨j, hj, rfl, rfl, rfl⟩ := hrel
      by_cases hlt : j < n
      · have hjl : j < (muM k n).length := by rw [muM_len]; exact hlt
        have c := HC.out j hjl
        rw [muM_at] at c
        obtain ⟨c0, c1, c2⟩ := c
        clear hjl
        go_wp2
        go_roundg (gk - 1)
        case measure => omega
        case rel => exact ⟨j + 1, by omega, by go_num, by go_num, rfl⟩
      · obtain rfl : j = n := by omega
        go_wp2
        go_ret
        exact ⟨by go_num, rfl⟩
  · obtain rfl : n = 0 := by omega
    clear hr
    go_enter Tryz.func84, Tryz.ntmps84
    go_wp2
    go_rounds 1
    go_ret
    exact ⟨by simp, rfl⟩
end Go.Proofs.YtphijlknefgkiaaGreatDoor

namespace Go.Proofs.YtphijlknefgkiaaGreatDoor
open Go.ChangeShapes Go.WideShapes Go.ChangeAt Go.RowKit Go.PlainAid
set_option linter.unusedVariables false

/-- n marks from k on, 5 each -/
def moM (k : Nat) : Nat → List (Int × Int × Int × Int × Int)
  | 0 => []
  | n + 1 => ((k : Int), (k : Int) + 1, (k : Int) + 2, (k : Int) + 3, (k : Int) + 4) :: moM (k + 5) n
theorem moM_len : ∀ (n k : Nat), (moM k n).length = n
  | 0, _ => rfl
  | n + 1, k => by simp [moM, moM_len n]
theorem moM_snoc : ∀ (j k : Nat), moM k (j + 1) = moM k j ++ [(((k : Int) + 5 * (j : Int)), ((k : Int) + 5 * (j : Int)) + 1, ((k : Int) + 5 * (j : Int)) + 2, ((k : Int) + 5 * (j : Int)) + 3, ((k : Int) + 5 * (j : Int)) + 4)]
  | 0, k => by simp [moM]
  | j + 1, k => by
    rw [moM, moM_snoc j (k + 5), moM, List.cons_append, show ((k + 5 : Nat) : Int) + 5 * (j : Int) = (k : Int) + 5 * ((j + 1 : Nat) : Int) by omega]
theorem moM_at : ∀ (n k j : Nat) (h : j < (moM k n).length), (moM k n)[j] = (((k : Int) + 5 * (j : Int)), ((k : Int) + 5 * (j : Int)) + 1, ((k : Int) + 5 * (j : Int)) + 2, ((k : Int) + 5 * (j : Int)) + 3, ((k : Int) + 5 * (j : Int)) + 4)
  | 0, k, j, h => by simp [moM] at h
  | n + 1, k, 0, h => by simp [moM]
  | n + 1, k, j + 1, h => by
    have h' : j < (moM (k + 5) n).length := by simpa [moM] using h
    have := moM_at n (k + 5) j h'
    simp only [moM, List.getElem_cons_succ]
    rw [this, show ((k + 5 : Nat) : Int) + 5 * (j : Int) = (k : Int) + 5 * ((j + 1 : Nat) : Int) by omega]
def moX (l : List (Int × Int × Int × Int × Int)) (k j : Nat) : List (Int × Int × Int × Int × Int) := moM k j ++ l.drop j
theorem moX_len {l : List (Int × Int × Int × Int × Int)} {k j : Nat} (h : j ≤ l.length) : (moX l k j).length = l.length := by
  unfold moX; rw [List.length_append, moM_len, List.length_drop]; omega
theorem moX_set {l : List (Int × Int × Int × Int × Int)} {k j : Nat} (h : j < l.length) : (moX l k j).set j (((k : Int) + 5 * (j : Int)), ((k : Int) + 5 * (j : Int)) + 1, ((k : Int) + 5 * (j : Int)) + 2, ((k : Int) + 5 * (j : Int)) + 3, ((k : Int) + 5 * (j : Int)) + 4) = moX l k (j + 1) := by
  unfold moX
  rw [List.set_append_right _ _ (by rw [moM_len]; omega), moM_len, Nat.sub_self, List.drop_eq_getElem_cons h, List.set_cons_zero, moM_snoc]
  simp
theorem moX_all (l : List (Int × Int × Int × Int × Int)) (k : Nat) : moX l k l.length = moM k l.length := by unfold moX; simp

set_option maxRecDepth 100000 in
set_option maxHeartbeats 8000000 in
theorem moMark (l : List (Int × Int × Int × Int × Int)) (v : Value) (B n k : Nat) (K : Int) (hK : K = k) (hl : l.length = n) (hn : n ≤ 1048576) (hk : k ≤ 1000000) (w : World) (hown : OwnO w B v n l) (hB : B ≤ w.heap.size) :
    Calls Tryz.prog 41 #[v, .int .i64 K] w fun e w' => e = .returned (.int .i64 (K + 5 * n)) ∧ OwnO w' B v n (moM k n) ∧ Below B w w' ∧ w.grownBy w' v.ownBlock := by
  subst hK
  by_cases hp : 0 < n
  · obtain ⟨g, cap, rfl, hg⟩ : ∃ g cap, v = .slice (some ⟨g, 0, none⟩) n cap ∧ B ≤ g := by
      rcases hown.2 with ⟨rfl, e⟩ | ⟨g, cap, cur, rfl, hg, _⟩
      · omega
      · exact ⟨g, cap, rfl, hg⟩
    have HL : Hid (l.length = n) := hl
    have HO0 : Hid (w.ownsRow B 88 5 (.slice (some ⟨g, 0, none⟩) n cap) n (prtV l)) := hown
    clear hown hl
    go_enter Tryz.func41, Tryz.ntmps41
    go_wp2
    go_loopg [1, 5] n (fun gk kv i wr => ∃ j : Nat, j + gk = n ∧ kv = .int .i64 ((k : Int) + 5 * (j : Int)) ∧ i = .int .i64 j ∧ Hid (wr.ownsRow B 88 5 (.slice (some ⟨g, 0, none⟩) n cap) n (prtV (moX l k j))) ∧ Hid (Below B w wr) ∧ Hid (w.grownBy wr (some g)))
    case atStart => exact ⟨0, by omega, by simp, rfl, HO0, Below.refl _ _, World.grownBy.refl _ _⟩
    case round =>
      clear HO0
      obtain ⟨j, hj, rfl, rfl, HO, HW, HG⟩ := hrel
      by_cases hlt : j < n
      · have hjl : j < l.length := by have := HL.out; omega
        have hm : (moX l k j).length = n := by rw [moX_len (by omega)]; exact HL.out
        have hat := prtV_at (moX l k j) j (by omega)
        have h0 := HO.out
        have HJL : Hid (j < l.length) := hjl
        have hS : MkS w wr B 88 5 g n cap (prtV (moX l k j)) := ⟨HO.out, HW.out, HG.out⟩
        clear HO hat hm hjl h0 HW HG
        go_wp2_with (refine listStoreM rfl rfl _ _ _ rfl rfl g _ _ rfl rfl (by assumption) (by omega) ?_; intro W hS)
        have HS : Hid (World.ownsRow W B 88 5 (.slice (some ⟨g, 0, none⟩) n cap) n (prtV (moX l k (j + 1)))) := by
          have hh := hS.o
          have e2 : ∀ x : Int, x + 1 + 1 = x + 2 := fun x => by omega
          have e3 : ∀ x : Int, x + 2 + 1 = x + 3 := fun x => by omega
          have e4 : ∀ x : Int, x + 3 + 1 = x + 4 := fun x => by omega
          try rw [e2] at hh
          try rw [e3] at hh
          try rw [e4] at hh
          rw [prtV_set, moX_set HJL.out] at hh
          exact hh
        have HW' : Hid (Below B w W) := hS.b
        have HG' : Hid (w.grownBy W (some g)) := hS.g
        clear hS HJL
        go_roundg (gk - 1)
        case measure => omega
        case rel => exact ⟨j + 1, by omega, by go_num, by go_num, HS, HW', HG'⟩
      · obtain rfl : j = n := by omega
        have HO' : Hid (OwnO wr B (.slice (some ⟨g, 0, none⟩) j cap) j (moM k j)) := by
          have h := HO.out
          have e := moX_all l k
          rw [HL.out] at e
          rw [e] at h
          exact h
        clear HO
        go_wp2
        go_ret
        exact ⟨by go_num, HO'.out, HW.out, HG.out⟩
  · obtain rfl : n = 0 := by omega
    obtain rfl : l = [] := List.length_eq_zero_iff.1 hl
    obtain ⟨a, cap, rfl⟩ := own_shapeW hown
    have HO : Hid (OwnO w B (.slice a 0 cap) 0 []) := hown
    clear hown
    go_enter Tryz.func41, Tryz.ntmps41
    go_wp2
    go_rounds 1
    go_ret
    exact ⟨by simp, HO.out, Below.refl _ _, World.grownBy.refl _ _⟩

set_option maxRecDepth 100000 in
set_option maxHeartbeats 1000000 in
theorem moHeld (a : Option Addr) (n k cap : Nat) (K : Int) (hK : K = k) (hn : n ≤ 1048576) (hk : k ≤ 1000000) (w : World) (hr : RdO w a (moM k n)) :
    Calls Tryz.prog 83 #[.slice a n cap, .int .i64 K] w fun e w' => e = .returned (.int .i64 (K + 5 * n)) ∧ w' = w := by
  subst hK
  by_cases hp : 0 < n
  · obtain ⟨g, off, rfl, hc⟩ := hr (by rw [moM_len]; exact hp)
    have HC : Hid (∀ j (h : j < (moM k n).length), w.cell? ⟨g, off + j * 5, none⟩ = some (.int .i64 (moM k n)[j].1) ∧ w.cell? ⟨g, off + j * 5 + 1, none⟩ = some (.int .i64 (moM k n)[j].2.1) ∧ w.cell? ⟨g, off + j * 5 + 2, none⟩ = some (.int .i64 (moM k n)[j].2.2.1) ∧ w.cell? ⟨g, off + j * 5 + 3, none⟩ = some (.int .i64 (moM k n)[j].2.2.2.1) ∧ w.cell? ⟨g, off + j * 5 + 4, none⟩ = some (.int .i64 (moM k n)[j].2.2.2.2)) := hc
    clear hr hc
    go_enter Tryz.func83, Tryz.ntmps83
    go_wp2
    go_loopg [1, 5] n (fun gk kv i wr => ∃ j : Nat, j + gk = n ∧ kv = .int .i64 ((k : Int) + 5 * (j : Int)) ∧ i = .int .i64 j ∧ wr = w)
    case atStart => exact ⟨0, by omega, by simp, rfl, rfl⟩
    case round =>
      obtain ⟨j, hj, rfl, rfl, rfl⟩ := hrel
      by_cases hlt : j < n
      · have hjl : j < (moM k n).length := by rw [moM_len]; exact hlt
        have c := HC.out j hjl
        rw [moM_at] at c
        obtain ⟨c0, c1, c2, c3, c4⟩ := c
        clear hjl
        go_wp2
        go_roundg (gk - 1)
        case measure => omega
        case rel => exact ⟨j + 1, by omega, by go_num, by go_num, rfl⟩
      · obtain rfl : j = n := by omega
        go_wp2
        go_ret
        exact ⟨by go_num, rfl⟩
  · obtain rfl : n = 0 := by omega
    clear hr
    go_enter Tryz.func83, Tryz.ntmps83
    go_wp2
    go_rounds 1
    go_ret
    exact ⟨by simp, rfl⟩
end Go.Proofs.YtphijlknefgkiaaGreatDoor

namespace Go.Proofs.YtphijlknefgkiaaGreatDoor.S
open Go.RowKit Go.PlainAid
set_option linter.unusedVariables false

theorem grown_bel {w W W' : World} {C : Nat} (hg : w.grownBy W (some C)) (hb : Below W.heap.size W W') : w.grownBy W' (some C) :=
  ⟨hb.os.trans hg.os, hb.tape.trans hg.tape, hb.output.trans hg.output, Nat.le_trans hg.size hb.size, fun k hk hne => (hb.block k (Nat.lt_of_lt_of_le hk hg.size)).trans (hg.block k hk hne)⟩
set_option maxRecDepth 100000 in
set_option maxHeartbeats 1000000 in
theorem mark7g (l : List ByteArray) (v : Value) (B k : Nat) (h0 : 0 < k) (hk : k + l.length ≤ 1000000) (w : World) (hown : w.ownsRow B 9 1 v l.length (strV l)) (hB : B ≤ w.heap.size) :
    Calls Tryz.prog 43 #[v, .int .i64 k] w fun e w' => e = .returned (.int .i64 ((k : Int) + l.length)) ∧ w'.ownsRow B 9 1 v l.length (strV (marks k l.length)) ∧ Below B w w' ∧ w.grownBy w' v.ownBlock := by
  obtain ⟨a, cap, rfl, hc⟩ := own_form hown
  by_cases hp : 0 < l.length
  · obtain ⟨g, rfl, hg, _⟩ := hc hp
    have hBg : B ≤ g := own_ge hown g hg
    clear hc hg
    go_enter Tryz.func43, Tryz.ntmps43
    go_wp2
    go_loopw [1, 5] (fun kv i wr => ∃ j : Nat, j ≤ l.length ∧ kv = .int .i64 (k + j : Nat) ∧ i = .int .i64 j ∧ wr.ownsRow B 9 1 (.slice (some ⟨g, 0, none⟩) l.length cap) l.length (strV (mixed l k j)) ∧ Below B w wr ∧ w.grownBy wr (some g)) (fun _ i _ => l.length - (intOf i).toNat)
    case atStart => exact ⟨0, Nat.zero_le _, rfl, rfl, by rw [mixed_zero]; exact hown, Below.refl _ _, World.grownBy.refl _ _⟩
    case round =>
      clear hown
      obtain ⟨j, hj, rfl, rfl, hown, hnx, hgr⟩ := hrel
      have hsz := hnx.size
      by_cases hlt : j < l.length
      · have hm := mixed_len (k := k) hj
        have hcell := hown.cellAt j (by omega)
        have hfr := hown.frozenAt j
        have hgl := own_lt hown g rfl
        rw [List.getElem?_eq_getElem (by rw [strV_len, hm]; exact hlt)] at hcell
        generalize (strV (mixed l k j))[j]'(by rw [strV_len, hm]; exact hlt) = old at hcell
        have hst := fun (W : World) (hb : Below wr.heap.size wr W) => (own_keep hown hb (fun g' h' => own_lt hown g' h')).stored j (.string (mk (k + j)))
        have HS : Hid (∀ (W : World) (hb : Below wr.heap.size wr W), (W.setCell ⟨g, j, none⟩ (.string (mk (k + j)))).ownsRow B 9 1 (.slice (some ⟨g, 0, none⟩) l.length cap) l.length ((strV (mixed l k j)).set j (.string (mk (k + j))))) := fun W hb => (hst W hb).1
        clear hst
        go_wp2_with fail
        refine (mt13 (k + j) (by omega) (by omega) _).mono ?_
        rintro e w1 ⟨rfl, hb1⟩
        have hcell1 : w1.cell? ⟨g, j, none⟩ = some old := (hb1.cell (p := ⟨g, j, none⟩) hgl).trans hcell
        have hfr1 : w1.frozen? ⟨g, j, none⟩ = false := (hb1.frozen (p := ⟨g, j, none⟩) hgl).trans hfr
        go_wp2
        go_roundw
        case rel => exact ⟨j + 1, by omega, by go_num, by go_num, by have := HS.out w1 hb1; rw [set_strV, mixed_set hlt] at this; exact this, (hnx.trans (hb1.mono (by omega))).setCell hBg _, grown_setc (grown_bel hgr hb1) _⟩
        case measure => simp [intOf]; omega
      · obtain rfl : j = l.length := by omega
        rw [mixed_all] at hown
        go_wp2
        go_ret
        exact ⟨by go_num, hown, hnx, hgr⟩
  · have hz : l.length = 0 := by omega
    obtain rfl : l = [] := List.length_eq_zero_iff.1 hz
    clear hc hp hz
    go_enter Tryz.func43, Tryz.ntmps43
    go_wp2
    go_rounds 1
    go_ret
    exact ⟨by simp, hown, Below.refl _ _, World.grownBy.refl _ _⟩


end Go.Proofs.YtphijlknefgkiaaGreatDoor.S
namespace Go.Proofs.YtphijlknefgkiaaGreatDoor
open Go.RowKit Go.PlainAid
set_option linter.unusedVariables false

/-- the marks of a set-up whose lists have so many elements -/
def mkX (n0 n1 n2 n3 n4 : Nat) : SX := ⟨mrM (1) n0, mwM (1 + 2 * n0) n1, moM (1 + 2 * n0 + 2 * n1) n2, muM (1 + 2 * n0 + 2 * n1 + 5 * n2) n3, S.marks (1 + 2 * n0 + 2 * n1 + 5 * n2 + 3 * n3) n4⟩
/-- how far they count -/
def mkN (n0 n1 n2 n3 n4 : Nat) : Nat := 1 + 2 * n0 + 2 * n1 + 5 * n2 + 3 * n3 + 1 * n4
/-- lists of a set-up that are few -/
structure FewX (X : SX) : Prop where
  r : X.R.length ≤ 12
  w : X.W.length ≤ 12
  o : X.O.length ≤ 12
  u : X.U.length ≤ 12
  s : X.S.length ≤ 12
  b : S.bytesS X.S ≤ 1048576
theorem OwnX.len {W : World} {B : Nat} {s : SH} {X : SX} (h : OwnX W B s X) : X.R.length = s.n0 ∧ X.W.length = s.n1 ∧ X.O.length = s.n2 ∧ X.U.length = s.n3 ∧ X.S.length = s.n4 :=
  ⟨h.rd.l0, h.rd.l1, h.rd.l2, h.rd.l3, h.rd.l4⟩
theorem OwnX.less {W : World} {B B' : Nat} {s : SH} {X : SX} (h : OwnX W B s X) (hB : B' ≤ B) : OwnX W B' s X :=
  ⟨own_mono h.o0 hB, own_mono h.o1 hB, own_mono h.o2 hB, own_mono h.o3 hB, own_mono h.o4 hB⟩
theorem own_gr11 {W W' : World} {B T z n k : Nat} {v : Value} {xs : List Value} {cs : Array Value} {T' : TypeId} (h : W.ownsRow B T z v n xs) (hg : W.grownBy W' v.ownBlock) (hT : T ≠ T') (hk : W.heap[k]? = some (.cells cs T')) : W'.heap[k]? = some (.cells cs T') :=
  (hg.block k (row_lt hk) (fun e => own_far11 h hk hT e.symm)).trans hk
/-- a type of block that marks of a set-up do not touch -/
structure FarT (T : TypeId) : Prop where
  t0 : 94 ≠ T
  t1 : 98 ≠ T
  t2 : 88 ≠ T
  t3 : 104 ≠ T
  t4 : 9 ≠ T
set_option maxRecDepth 100000 in
set_option maxHeartbeats 4000000 in
theorem markSet (s : SH) (X : SX) (B : Nat) (w : World) (h : OwnX w B s X) (hB : B ≤ w.heap.size) (hf : FewX X) :
    Calls Tryz.prog 10 #[SetV s, .int .i64 1] w fun e w' => e = .returned (.int .i64 (mkN s.n0 s.n1 s.n2 s.n3 s.n4 : Nat)) ∧ OwnX w' B s (mkX s.n0 s.n1 s.n2 s.n3 s.n4) ∧ Below B w w' ∧ ∀ (k : Nat) (cs : Array Value) (T : TypeId), FarT T → w.heap[k]? = some (Obj.cells cs T) → w'.heap[k]? = some (.cells cs T) := by
  obtain ⟨l0, l1, l2, l3, l4⟩ := h.len
  obtain ⟨f0, f1, f2, f3, f4, _⟩ := hf
  obtain ⟨q0, n0, c0, q1, n1, c1, q2, n2, c2, q3, n3, c3, q4, n4, c4⟩ := s
  dsimp only at l0 l1 l2 l3 l4
  rw [l0] at f0
  rw [l1] at f1
  rw [l2] at f2
  rw [l3] at f3
  rw [l4] at f4
  have HL : Hid (X.R.length = n0 ∧ X.W.length = n1 ∧ X.O.length = n2 ∧ X.U.length = n3 ∧ X.S.length = n4) := ⟨l0, l1, l2, l3, l4⟩
  clear l0 l1 l2 l3 l4
  have hal : Below w.heap.size w (w.alloc (.cells #[.slice q0 n0 c0, .slice q1 n1 c1, .slice q2 n2 c2, .slice q3 n3 c3, .slice q4 n4 c4] 35)) := (Below.refl _ _).alloc (Nat.le_refl _) _
  have HO0 : Hid (OwnX (w.alloc (.cells #[.slice q0 n0 c0, .slice q1 n1 c1, .slice q2 n2 c2, .slice q3 n3 c3, .slice q4 n4 c4] 35)) B ⟨q0, n0, c0, q1, n1, c1, q2, n2, c2, q3, n3, c3, q4, n4, c4⟩ X) := h.bel hal
  have HP0 : Hid ((w.alloc (.cells #[.slice q0 n0 c0, .slice q1 n1 c1, .slice q2 n2 c2, .slice q3 n3 c3, .slice q4 n4 c4] 35)).heap[w.heap.size]? = some (.cells #[.slice q0 n0 c0, .slice q1 n1 c1, .slice q2 n2 c2, .slice q3 n3 c3, .slice q4 n4 c4] 35)) := heap_new w _
  have HB0 : Hid (Below B w (w.alloc (.cells #[.slice q0 n0 c0, .slice q1 n1 c1, .slice q2 n2 c2, .slice q3 n3 c3, .slice q4 n4 c4] 35))) := (Below.refl _ _).alloc hB _
  have HK0 : Hid (∀ (k : Nat) (cs : Array Value) (T : TypeId), FarT T → w.heap[k]? = some (Obj.cells cs T) → (w.alloc (.cells #[.slice q0 n0 c0, .slice q1 n1 c1, .slice q2 n2 c2, .slice q3 n3 c3, .slice q4 n4 c4] 35)).heap[k]? = some (.cells cs T)) := fun k cs T hT hk => row_on hk hal
  have e0 := boxO_cells HP0.out
  clear h hal
  unfold SetV
  dsimp only
  go_enter Tryz.func10, Tryz.ntmps10
  go_wp2_with fail
  refine (mrMark X.R (.slice q0 n0 c0) B n0 (1) _ (by omega) (HL.out.1) (by omega) (by omega) _ HO0.out.o0 (by have := HB0.out.size; omega)).mono ?_
  rintro e w1 ⟨rfl, ho, hb, hg⟩
  have HO1 : Hid (OwnX w1 B ⟨q0, n0, c0, q1, n1, c1, q2, n2, c2, q3, n3, c3, q4, n4, c4⟩ ⟨mrM (1) n0, X.W, X.O, X.U, X.S⟩) := ⟨ho, own_other11 HO0.out.o1 hg (own_apart11 HO0.out.o1 HO0.out.o0 (by decide)), own_other11 HO0.out.o2 hg (own_apart11 HO0.out.o2 HO0.out.o0 (by decide)), own_other11 HO0.out.o3 hg (own_apart11 HO0.out.o3 HO0.out.o0 (by decide)), own_other11 HO0.out.o4 hg (own_apart11 HO0.out.o4 HO0.out.o0 (by decide))⟩
  have HP1 : Hid (w1.heap[w.heap.size]? = some (.cells #[.slice q0 n0 c0, .slice q1 n1 c1, .slice q2 n2 c2, .slice q3 n3 c3, .slice q4 n4 c4] 35)) := own_gr11 HO0.out.o0 hg (by decide) HP0.out
  have HB1 : Hid (Below B w w1) := HB0.out.trans hb
  have HK1 : Hid (∀ (k : Nat) (cs : Array Value) (T : TypeId), FarT T → w.heap[k]? = some (Obj.cells cs T) → w1.heap[k]? = some (.cells cs T)) := fun k cs T hT hk => own_gr11 HO0.out.o0 hg hT.t0 (HK0.out k cs T hT hk)
  clear ho hb hg HO0 HP0 HB0 HK0 e0
  have e1 := boxO_cells HP1.out
  go_wp2_with fail
  refine (mwMark X.W (.slice q1 n1 c1) B n1 (1 + 2 * n0) _ (by omega) (HL.out.2.1) (by omega) (by omega) _ HO1.out.o1 (by have := HB1.out.size; omega)).mono ?_
  rintro e w2 ⟨rfl, ho, hb, hg⟩
  have HO2 : Hid (OwnX w2 B ⟨q0, n0, c0, q1, n1, c1, q2, n2, c2, q3, n3, c3, q4, n4, c4⟩ ⟨mrM (1) n0, mwM (1 + 2 * n0) n1, X.O, X.U, X.S⟩) := ⟨own_other11 HO1.out.o0 hg (own_apart11 HO1.out.o0 HO1.out.o1 (by decide)), ho, own_other11 HO1.out.o2 hg (own_apart11 HO1.out.o2 HO1.out.o1 (by decide)), own_other11 HO1.out.o3 hg (own_apart11 HO1.out.o3 HO1.out.o1 (by decide)), own_other11 HO1.out.o4 hg (own_apart11 HO1.out.o4 HO1.out.o1 (by decide))⟩
  have HP2 : Hid (w2.heap[w.heap.size]? = some (.cells #[.slice q0 n0 c0, .slice q1 n1 c1, .slice q2 n2 c2, .slice q3 n3 c3, .slice q4 n4 c4] 35)) := own_gr11 HO1.out.o1 hg (by decide) HP1.out
  have HB2 : Hid (Below B w w2) := HB1.out.trans hb
  have HK2 : Hid (∀ (k : Nat) (cs : Array Value) (T : TypeId), FarT T → w.heap[k]? = some (Obj.cells cs T) → w2.heap[k]? = some (.cells cs T)) := fun k cs T hT hk => own_gr11 HO1.out.o1 hg hT.t1 (HK1.out k cs T hT hk)
  clear ho hb hg HO1 HP1 HB1 HK1 e1
  have e2 := boxO_cells HP2.out
  go_wp2_with fail
  refine (moMark X.O (.slice q2 n2 c2) B n2 (1 + 2 * n0 + 2 * n1) _ (by omega) (HL.out.2.2.1) (by omega) (by omega) _ HO2.out.o2 (by have := HB2.out.size; omega)).mono ?_
  rintro e w3 ⟨rfl, ho, hb, hg⟩
  have HO3 : Hid (OwnX w3 B ⟨q0, n0, c0, q1, n1, c1, q2, n2, c2, q3, n3, c3, q4, n4, c4⟩ ⟨mrM (1) n0, mwM (1 + 2 * n0) n1, moM (1 + 2 * n0 + 2 * n1) n2, X.U, X.S⟩) := ⟨own_other11 HO2.out.o0 hg (own_apart11 HO2.out.o0 HO2.out.o2 (by decide)), own_other11 HO2.out.o1 hg (own_apart11 HO2.out.o1 HO2.out.o2 (by decide)), ho, own_other11 HO2.out.o3 hg (own_apart11 HO2.out.o3 HO2.out.o2 (by decide)), own_other11 HO2.out.o4 hg (own_apart11 HO2.out.o4 HO2.out.o2 (by decide))⟩
  have HP3 : Hid (w3.heap[w.heap.size]? = some (.cells #[.slice q0 n0 c0, .slice q1 n1 c1, .slice q2 n2 c2, .slice q3 n3 c3, .slice q4 n4 c4] 35)) := own_gr11 HO2.out.o2 hg (by decide) HP2.out
  have HB3 : Hid (Below B w w3) := HB2.out.trans hb
  have HK3 : Hid (∀ (k : Nat) (cs : Array Value) (T : TypeId), FarT T → w.heap[k]? = some (Obj.cells cs T) → w3.heap[k]? = some (.cells cs T)) := fun k cs T hT hk => own_gr11 HO2.out.o2 hg hT.t2 (HK2.out k cs T hT hk)
  clear ho hb hg HO2 HP2 HB2 HK2 e2
  have e3 := boxO_cells HP3.out
  go_wp2_with fail
  refine (muMark X.U (.slice q3 n3 c3) B n3 (1 + 2 * n0 + 2 * n1 + 5 * n2) _ (by omega) (HL.out.2.2.2.1) (by omega) (by omega) _ HO3.out.o3 (by have := HB3.out.size; omega)).mono ?_
  rintro e w4 ⟨rfl, ho, hb, hg⟩
  have HO4 : Hid (OwnX w4 B ⟨q0, n0, c0, q1, n1, c1, q2, n2, c2, q3, n3, c3, q4, n4, c4⟩ ⟨mrM (1) n0, mwM (1 + 2 * n0) n1, moM (1 + 2 * n0 + 2 * n1) n2, muM (1 + 2 * n0 + 2 * n1 + 5 * n2) n3, X.S⟩) := ⟨own_other11 HO3.out.o0 hg (own_apart11 HO3.out.o0 HO3.out.o3 (by decide)), own_other11 HO3.out.o1 hg (own_apart11 HO3.out.o1 HO3.out.o3 (by decide)), own_other11 HO3.out.o2 hg (own_apart11 HO3.out.o2 HO3.out.o3 (by decide)), ho, own_other11 HO3.out.o4 hg (own_apart11 HO3.out.o4 HO3.out.o3 (by decide))⟩
  have HP4 : Hid (w4.heap[w.heap.size]? = some (.cells #[.slice q0 n0 c0, .slice q1 n1 c1, .slice q2 n2 c2, .slice q3 n3 c3, .slice q4 n4 c4] 35)) := own_gr11 HO3.out.o3 hg (by decide) HP3.out
  have HB4 : Hid (Below B w w4) := HB3.out.trans hb
  have HK4 : Hid (∀ (k : Nat) (cs : Array Value) (T : TypeId), FarT T → w.heap[k]? = some (Obj.cells cs T) → w4.heap[k]? = some (.cells cs T)) := fun k cs T hT hk => own_gr11 HO3.out.o3 hg hT.t3 (HK3.out k cs T hT hk)
  clear ho hb hg HO3 HP3 HB3 HK3 e3
  have e4 := boxO_cells HP4.out
  go_wp2_with fail
  have ho4 : w4.ownsRow B 9 1 (.slice q4 n4 c4) X.S.length (S.strV X.S) := by rw [HL.out.2.2.2.2]; exact HO4.out.o4
  have hkk : (1 + 2 * (n0 : Int) + 2 * (n1 : Int) + 5 * (n2 : Int) + 3 * (n3 : Int)) = ((1 + 2 * n0 + 2 * n1 + 5 * n2 + 3 * n3 : Nat) : Int) := by omega
  rw [hkk]
  refine (S.mark7g X.S (.slice q4 n4 c4) B (1 + 2 * n0 + 2 * n1 + 5 * n2 + 3 * n3) (by omega) (by rw [HL.out.2.2.2.2]; omega) _ ho4 (by have := HB4.out.size; omega)).mono ?_
  rintro e w5 ⟨rfl, ho, hb, hg⟩
  rw [HL.out.2.2.2.2] at ho ⊢
  have HO5 : Hid (OwnX w5 B ⟨q0, n0, c0, q1, n1, c1, q2, n2, c2, q3, n3, c3, q4, n4, c4⟩ ⟨mrM (1) n0, mwM (1 + 2 * n0) n1, moM (1 + 2 * n0 + 2 * n1) n2, muM (1 + 2 * n0 + 2 * n1 + 5 * n2) n3, S.marks (1 + 2 * n0 + 2 * n1 + 5 * n2 + 3 * n3) n4⟩) := ⟨own_other11 HO4.out.o0 hg (own_apart11 HO4.out.o0 HO4.out.o4 (by decide)), own_other11 HO4.out.o1 hg (own_apart11 HO4.out.o1 HO4.out.o4 (by decide)), own_other11 HO4.out.o2 hg (own_apart11 HO4.out.o2 HO4.out.o4 (by decide)), own_other11 HO4.out.o3 hg (own_apart11 HO4.out.o3 HO4.out.o4 (by decide)), ho⟩
  have HP5 : Hid (w5.heap[w.heap.size]? = some (.cells #[.slice q0 n0 c0, .slice q1 n1 c1, .slice q2 n2 c2, .slice q3 n3 c3, .slice q4 n4 c4] 35)) := own_gr11 HO4.out.o4 hg (by decide) HP4.out
  have HB5 : Hid (Below B w w5) := HB4.out.trans hb
  have HK5 : Hid (∀ (k : Nat) (cs : Array Value) (T : TypeId), FarT T → w.heap[k]? = some (Obj.cells cs T) → w5.heap[k]? = some (.cells cs T)) := fun k cs T hT hk => own_gr11 HO4.out.o4 hg hT.t4 (HK4.out k cs T hT hk)
  clear ho hb hg HO4 HP4 HB4 HK4 e4 ho4 hkk
  have e5 := boxO_cells HP5.out
  go_wp2
  go_ret
  refine ⟨?_, HO5.out, HB5.out, HK5.out⟩
  have hz : ((1 + 2 * n0 + 2 * n1 + 5 * n2 + 3 * n3 : Nat) : Int) + (n4 : Int) = ((mkN n0 n1 n2 n3 n4 : Nat) : Int) := by unfold mkN; omega
  rw [← hz]
  congr 2

set_option maxRecDepth 100000 in
set_option maxHeartbeats 4000000 in
theorem heldSet (s : SH) (X : SX) (B : Nat) (w : World) (h : OwnX w B s (mkX s.n0 s.n1 s.n2 s.n3 s.n4)) (f0 : s.n0 ≤ 12) (f1 : s.n1 ≤ 12) (f2 : s.n2 ≤ 12) (f3 : s.n3 ≤ 12) (f4 : s.n4 ≤ 12) :
    Calls Tryz.prog 49 #[SetV s, .int .i64 1] w fun e w' => e = .returned (.int .i64 (mkN s.n0 s.n1 s.n2 s.n3 s.n4 : Nat)) ∧ Below w.heap.size w w' := by
  obtain ⟨q0, n0, c0, q1, n1, c1, q2, n2, c2, q3, n3, c3, q4, n4, c4⟩ := s
  dsimp only at h f0 f1 f2 f3 f4
  have hal : Below w.heap.size w (w.alloc (.cells #[.slice q0 n0 c0, .slice q1 n1 c1, .slice q2 n2 c2, .slice q3 n3 c3, .slice q4 n4 c4] 35)) := (Below.refl _ _).alloc (Nat.le_refl _) _
  have HO : Hid (OwnX (w.alloc (.cells #[.slice q0 n0 c0, .slice q1 n1 c1, .slice q2 n2 c2, .slice q3 n3 c3, .slice q4 n4 c4] 35)) B ⟨q0, n0, c0, q1, n1, c1, q2, n2, c2, q3, n3, c3, q4, n4, c4⟩ (mkX n0 n1 n2 n3 n4)) := h.bel hal
  have HR : Hid (RdX (w.alloc (.cells #[.slice q0 n0 c0, .slice q1 n1 c1, .slice q2 n2 c2, .slice q3 n3 c3, .slice q4 n4 c4] 35)) ⟨q0, n0, c0, q1, n1, c1, q2, n2, c2, q3, n3, c3, q4, n4, c4⟩ (mkX n0 n1 n2 n3 n4)) := HO.out.rd
  have HP : Hid ((w.alloc (.cells #[.slice q0 n0 c0, .slice q1 n1 c1, .slice q2 n2 c2, .slice q3 n3 c3, .slice q4 n4 c4] 35)).heap[w.heap.size]? = some (.cells #[.slice q0 n0 c0, .slice q1 n1 c1, .slice q2 n2 c2, .slice q3 n3 c3, .slice q4 n4 c4] 35)) := heap_new w _
  have e0 := boxO_cells HP.out
  have HB : Hid (Below w.heap.size w (w.alloc (.cells #[.slice q0 n0 c0, .slice q1 n1 c1, .slice q2 n2 c2, .slice q3 n3 c3, .slice q4 n4 c4] 35))) := hal
  clear h hal
  unfold SetV
  dsimp only
  go_enter Tryz.func49, Tryz.ntmps49
  go_wp2_with fail
  refine (mrHeld q0 n0 (1) c0 _ (by omega) (by omega) (by omega) _ HR.out.r0).mono ?_
  rintro e w1 ⟨rfl, hw⟩
  subst hw
  have hn0 : ¬ (1 + 2 * (n0 : Int)) < 0 := by omega
  go_wp2_with fail
  refine (mwHeld q1 n1 (1 + 2 * n0) c1 _ (by omega) (by omega) (by omega) _ HR.out.r1).mono ?_
  rintro e w2 ⟨rfl, hw⟩
  subst hw
  have hn1 : ¬ (1 + 2 * (n0 : Int) + 2 * (n1 : Int)) < 0 := by omega
  go_wp2_with fail
  refine (moHeld q2 n2 (1 + 2 * n0 + 2 * n1) c2 _ (by omega) (by omega) (by omega) _ HR.out.r2).mono ?_
  rintro e w3 ⟨rfl, hw⟩
  subst hw
  have hn2 : ¬ (1 + 2 * (n0 : Int) + 2 * (n1 : Int) + 5 * (n2 : Int)) < 0 := by omega
  go_wp2_with fail
  refine (muHeld q3 n3 (1 + 2 * n0 + 2 * n1 + 5 * n2) c3 _ (by omega) (by omega) (by omega) _ HR.out.r3).mono ?_
  rintro e w4 ⟨rfl, hw⟩
  subst hw
  have hn3 : ¬ (1 + 2 * (n0 : Int) + 2 * (n1 : Int) + 5 * (n2 : Int) + 3 * (n3 : Int)) < 0 := by omega
  go_wp2_with fail
  have hkk : (1 + 2 * (n0 : Int) + 2 * (n1 : Int) + 5 * (n2 : Int) + 3 * (n3 : Int)) = ((1 + 2 * n0 + 2 * n1 + 5 * n2 + 3 * n3 : Nat) : Int) := by omega
  rw [hkk]
  refine (S.held8 n4 (.slice q4 n4 c4) B (1 + 2 * n0 + 2 * n1 + 5 * n2 + 3 * n3) (by omega) (by omega) _ HO.out.o4).mono ?_
  rintro e w5 ⟨rfl, hb⟩
  have hn4 : ¬ (((1 + 2 * n0 + 2 * n1 + 5 * n2 + 3 * n3 : Nat) : Int) + (n4 : Int)) < 0 := by omega
  have HB5 : Hid (Below w.heap.size w w5) := bel_on (Nat.le_refl _) HB.out hb
  clear hb HB HO HR HP e0 hkk
  go_wp2
  go_ret
  refine ⟨?_, HB5.out⟩
  have hz : ((1 + 2 * n0 + 2 * n1 + 5 * n2 + 3 * n3 : Nat) : Int) + (n4 : Int) = ((mkN n0 n1 n2 n3 n4 : Nat) : Int) := by unfold mkN; omega
  rw [← hz]
  congr 2
end Go.Proofs.YtphijlknefgkiaaGreatDoor

namespace Go.Proofs.YtphijlknefgkiaaGreatDoor
open Go.ChangeShapes Go.WideShapes Go.ChangeAt Go.RowKit Go.PlainAid
set_option linter.unusedVariables false

set_option maxRecDepth 100000 in
set_option maxHeartbeats 8000000 in
theorem eqK (k k' : KH) (K : KX) (w : World) (h : RdK w k K) (h' : RdK w k' K) (hs : SmK k K) :
    Calls Tryz.prog 8 #[KerV k K, KerV k' K] w fun e w' => e = .returned (.bool true) ∧ Below w.heap.size w w' := by
  obtain ⟨s, qA, cA, qP, cP, qL, cL, qO, cO, qE, cE⟩ := k
  obtain ⟨X, A, P, L, O, tu, sp, E⟩ := K
  obtain ⟨u, bA, dA, bP, dP, bL, dL, bO, dO, bE, dE⟩ := k'
  have HX : Hid (RdK w ⟨s, qA, cA, qP, cP, qL, cL, qO, cO, qE, cE⟩ ⟨X, A, P, L, O, tu, sp, E⟩) := h
  have HY : Hid (RdK w ⟨u, bA, dA, bP, dP, bL, dL, bO, dO, bE, dE⟩ ⟨X, A, P, L, O, tu, sp, E⟩) := h'
  have HS : Hid (SmK ⟨s, qA, cA, qP, cP, qL, cL, qO, cO, qE, cE⟩ ⟨X, A, P, L, O, tu, sp, E⟩) := hs
  obtain ⟨nA, hA⟩ : ∃ n, A.length = n := ⟨_, rfl⟩
  obtain ⟨nP, hP⟩ : ∃ n, P.length = n := ⟨_, rfl⟩
  obtain ⟨nL, hL⟩ : ∃ n, L.length = n := ⟨_, rfl⟩
  obtain ⟨nO, hO⟩ : ∃ n, O.length = n := ⟨_, rfl⟩
  obtain ⟨nE, hE⟩ : ∃ n, E.length = n := ⟨_, rfl⟩
  have HNA : Hid (A.length = nA) := hA
  have HNP : Hid (P.length = nP) := hP
  have HNL : Hid (L.length = nL) := hL
  have HNO : Hid (O.length = nO) := hO
  have HNE : Hid (E.length = nE) := hE
  have mA : nA ≤ 1048576 := by rw [← hA]; exact hs.a
  have mP : nP ≤ 1048576 := by rw [← hP]; exact hs.p
  have mL : nL ≤ 1048576 := by rw [← hL]; exact hs.l
  have mO : nO ≤ 1048576 := by rw [← hO]; exact hs.o
  have mE : nE ≤ 1048576 := by rw [← hE]; exact hs.e
  unfold KerV
  dsimp only
  rw [hA, hP, hL, hO, hE]
  have HI0 : Hid (((w.alloc (.cells #[.slice s.q0 s.n0 s.c0, .slice s.q1 s.n1 s.c1, .slice s.q2 s.n2 s.c2, .slice s.q3 s.n3 s.c3, .slice s.q4 s.n4 s.c4, .slice qA nA cA, .slice qP nP cP, .slice qL nL cL, .slice qO nO cO, .int .i64 tu, .bool sp, .slice qE nE cE] 43)).alloc (.cells #[.slice u.q0 u.n0 u.c0, .slice u.q1 u.n1 u.c1, .slice u.q2 u.n2 u.c2, .slice u.q3 u.n3 u.c3, .slice u.q4 u.n4 u.c4, .slice bA nA dA, .slice bP nP dP, .slice bL nL dL, .slice bO nO dO, .int .i64 tu, .bool sp, .slice bE nE dE] 43)).heap[w.heap.size]? = some (.cells #[.slice s.q0 s.n0 s.c0, .slice s.q1 s.n1 s.c1, .slice s.q2 s.n2 s.c2, .slice s.q3 s.n3 s.c3, .slice s.q4 s.n4 s.c4, .slice qA nA cA, .slice qP nP cP, .slice qL nL cL, .slice qO nO cO, .int .i64 tu, .bool sp, .slice qE nE cE] 43)) := al2_1 w _ _
  have HJ0 : Hid (((w.alloc (.cells #[.slice s.q0 s.n0 s.c0, .slice s.q1 s.n1 s.c1, .slice s.q2 s.n2 s.c2, .slice s.q3 s.n3 s.c3, .slice s.q4 s.n4 s.c4, .slice qA nA cA, .slice qP nP cP, .slice qL nL cL, .slice qO nO cO, .int .i64 tu, .bool sp, .slice qE nE cE] 43)).alloc (.cells #[.slice u.q0 u.n0 u.c0, .slice u.q1 u.n1 u.c1, .slice u.q2 u.n2 u.c2, .slice u.q3 u.n3 u.c3, .slice u.q4 u.n4 u.c4, .slice bA nA dA, .slice bP nP dP, .slice bL nL dL, .slice bO nO dO, .int .i64 tu, .bool sp, .slice bE nE dE] 43)).heap[w.heap.size + 1]? = some (.cells #[.slice u.q0 u.n0 u.c0, .slice u.q1 u.n1 u.c1, .slice u.q2 u.n2 u.c2, .slice u.q3 u.n3 u.c3, .slice u.q4 u.n4 u.c4, .slice bA nA dA, .slice bP nP dP, .slice bL nL dL, .slice bO nO dO, .int .i64 tu, .bool sp, .slice bE nE dE] 43)) := al2_2 w _ _
  have HB0 : Hid (Below w.heap.size w ((w.alloc (.cells #[.slice s.q0 s.n0 s.c0, .slice s.q1 s.n1 s.c1, .slice s.q2 s.n2 s.c2, .slice s.q3 s.n3 s.c3, .slice s.q4 s.n4 s.c4, .slice qA nA cA, .slice qP nP cP, .slice qL nL cL, .slice qO nO cO, .int .i64 tu, .bool sp, .slice qE nE cE] 43)).alloc (.cells #[.slice u.q0 u.n0 u.c0, .slice u.q1 u.n1 u.c1, .slice u.q2 u.n2 u.c2, .slice u.q3 u.n3 u.c3, .slice u.q4 u.n4 u.c4, .slice bA nA dA, .slice bP nP dP, .slice bL nL dL, .slice bO nO dO, .int .i64 tu, .bool sp, .slice bE nE dE] 43))) := al2_b w _ _
  clear h h' hs hA hP hL hO hE
  go_enter Tryz.func8, Tryz.ntmps8
  go_wp2_with fail
  refine (eqSet s u X _ (HX.out.x.on HB0.out) (HY.out.x.on HB0.out) HS.out.x).mono ?_
  rintro e w1 ⟨rfl, hb1⟩
  have HB1 : Hid (Below w.heap.size w w1) := bel_on (Nat.le_refl _) HB0.out hb1
  have HI1 : Hid (w1.heap[w.heap.size]? = some (.cells #[.slice s.q0 s.n0 s.c0, .slice s.q1 s.n1 s.c1, .slice s.q2 s.n2 s.c2, .slice s.q3 s.n3 s.c3, .slice s.q4 s.n4 s.c4, .slice qA nA cA, .slice qP nP cP, .slice qL nL cL, .slice qO nO cO, .int .i64 tu, .bool sp, .slice qE nE cE] 43)) := row_on HI0.out hb1
  have HJ1 : Hid (w1.heap[w.heap.size + 1]? = some (.cells #[.slice u.q0 u.n0 u.c0, .slice u.q1 u.n1 u.c1, .slice u.q2 u.n2 u.c2, .slice u.q3 u.n3 u.c3, .slice u.q4 u.n4 u.c4, .slice bA nA dA, .slice bP nP dP, .slice bL nL dL, .slice bO nO dO, .int .i64 tu, .bool sp, .slice bE nE dE] 43)) := row_on HJ0.out hb1
  have kI1 := box12_cells HI1.out
  have kJ1 := box12_cells HJ1.out
  clear hb1 HB0 HI0 HJ0
  go_wp2_with fail
  refine (C.eqA qA bA A nA cA dA HNA.out mA _ (HX.out.a.keep HB1.out (Nat.le_refl _)) (HY.out.a.keep HB1.out (Nat.le_refl _))).mono ?_
  rintro e w2 ⟨rfl, hb2⟩
  have HB2 : Hid (Below w.heap.size w w2) := bel_on (Nat.le_refl _) HB1.out hb2
  have HI2 : Hid (w2.heap[w.heap.size]? = some (.cells #[.slice s.q0 s.n0 s.c0, .slice s.q1 s.n1 s.c1, .slice s.q2 s.n2 s.c2, .slice s.q3 s.n3 s.c3, .slice s.q4 s.n4 s.c4, .slice qA nA cA, .slice qP nP cP, .slice qL nL cL, .slice qO nO cO, .int .i64 tu, .bool sp, .slice qE nE cE] 43)) := row_on HI1.out hb2
  have HJ2 : Hid (w2.heap[w.heap.size + 1]? = some (.cells #[.slice u.q0 u.n0 u.c0, .slice u.q1 u.n1 u.c1, .slice u.q2 u.n2 u.c2, .slice u.q3 u.n3 u.c3, .slice u.q4 u.n4 u.c4, .slice bA nA dA, .slice bP nP dP, .slice bL nL dL, .slice bO nO dO, .int .i64 tu, .bool sp, .slice bE nE dE] 43)) := row_on HJ1.out hb2
  have kI2 := box12_cells HI2.out
  have kJ2 := box12_cells HJ2.out
  clear hb2 HB1 HI1 HJ1 kI1 kJ1
  go_wp2_with fail
  refine (eqPs qP bP P nP cP dP HNP.out mP HS.out.ps _ (HX.out.p.on HB2.out) (HY.out.p.on HB2.out)).mono ?_
  rintro e w3 ⟨rfl, hb3⟩
  have HB3 : Hid (Below w.heap.size w w3) := bel_on (Nat.le_refl _) HB2.out hb3
  have HI3 : Hid (w3.heap[w.heap.size]? = some (.cells #[.slice s.q0 s.n0 s.c0, .slice s.q1 s.n1 s.c1, .slice s.q2 s.n2 s.c2, .slice s.q3 s.n3 s.c3, .slice s.q4 s.n4 s.c4, .slice qA nA cA, .slice qP nP cP, .slice qL nL cL, .slice qO nO cO, .int .i64 tu, .bool sp, .slice qE nE cE] 43)) := row_on HI2.out hb3
  have HJ3 : Hid (w3.heap[w.heap.size + 1]? = some (.cells #[.slice u.q0 u.n0 u.c0, .slice u.q1 u.n1 u.c1, .slice u.q2 u.n2 u.c2, .slice u.q3 u.n3 u.c3, .slice u.q4 u.n4 u.c4, .slice bA nA dA, .slice bP nP dP, .slice bL nL dL, .slice bO nO dO, .int .i64 tu, .bool sp, .slice bE nE dE] 43)) := row_on HJ2.out hb3
  have kI3 := box12_cells HI3.out
  have kJ3 := box12_cells HJ3.out
  clear hb3 HB2 HI2 HJ2 kI2 kJ2
  go_wp2_with fail
  refine (eqLs qL bL L nL cL dL HNL.out mL HS.out.ls _ (HX.out.l.on HB3.out) (HY.out.l.on HB3.out)).mono ?_
  rintro e w4 ⟨rfl, hb4⟩
  have HB4 : Hid (Below w.heap.size w w4) := bel_on (Nat.le_refl _) HB3.out hb4
  have HI4 : Hid (w4.heap[w.heap.size]? = some (.cells #[.slice s.q0 s.n0 s.c0, .slice s.q1 s.n1 s.c1, .slice s.q2 s.n2 s.c2, .slice s.q3 s.n3 s.c3, .slice s.q4 s.n4 s.c4, .slice qA nA cA, .slice qP nP cP, .slice qL nL cL, .slice qO nO cO, .int .i64 tu, .bool sp, .slice qE nE cE] 43)) := row_on HI3.out hb4
  have HJ4 : Hid (w4.heap[w.heap.size + 1]? = some (.cells #[.slice u.q0 u.n0 u.c0, .slice u.q1 u.n1 u.c1, .slice u.q2 u.n2 u.c2, .slice u.q3 u.n3 u.c3, .slice u.q4 u.n4 u.c4, .slice bA nA dA, .slice bP nP dP, .slice bL nL dL, .slice bO nO dO, .int .i64 tu, .bool sp, .slice bE nE dE] 43)) := row_on HJ3.out hb4
  have kI4 := box12_cells HI4.out
  have kJ4 := box12_cells HJ4.out
  clear hb4 HB3 HI3 HJ3 kI3 kJ3
  go_wp2_with fail
  refine (C.eqInts qO bO O nO cO dO HNO.out mO _ (HX.out.o.keep HB4.out (Nat.le_refl _)) (HY.out.o.keep HB4.out (Nat.le_refl _))).mono ?_
  rintro e w5 ⟨rfl, hb5⟩
  have HB5 : Hid (Below w.heap.size w w5) := bel_on (Nat.le_refl _) HB4.out hb5
  have HI5 : Hid (w5.heap[w.heap.size]? = some (.cells #[.slice s.q0 s.n0 s.c0, .slice s.q1 s.n1 s.c1, .slice s.q2 s.n2 s.c2, .slice s.q3 s.n3 s.c3, .slice s.q4 s.n4 s.c4, .slice qA nA cA, .slice qP nP cP, .slice qL nL cL, .slice qO nO cO, .int .i64 tu, .bool sp, .slice qE nE cE] 43)) := row_on HI4.out hb5
  have HJ5 : Hid (w5.heap[w.heap.size + 1]? = some (.cells #[.slice u.q0 u.n0 u.c0, .slice u.q1 u.n1 u.c1, .slice u.q2 u.n2 u.c2, .slice u.q3 u.n3 u.c3, .slice u.q4 u.n4 u.c4, .slice bA nA dA, .slice bP nP dP, .slice bL nL dL, .slice bO nO dO, .int .i64 tu, .bool sp, .slice bE nE dE] 43)) := row_on HJ4.out hb5
  have kI5 := box12_cells HI5.out
  have kJ5 := box12_cells HJ5.out
  clear hb5 HB4 HI4 HJ4 kI4 kJ4
  go_wp2_with fail
  refine (eqEs qE bE E nE cE dE HNE.out mE _ (HX.out.e.on HB5.out) (HY.out.e.on HB5.out)).mono ?_
  rintro e w6 ⟨rfl, hb6⟩
  have HB6 : Hid (Below w.heap.size w w6) := bel_on (Nat.le_refl _) HB5.out hb6
  have HI6 : Hid (w6.heap[w.heap.size]? = some (.cells #[.slice s.q0 s.n0 s.c0, .slice s.q1 s.n1 s.c1, .slice s.q2 s.n2 s.c2, .slice s.q3 s.n3 s.c3, .slice s.q4 s.n4 s.c4, .slice qA nA cA, .slice qP nP cP, .slice qL nL cL, .slice qO nO cO, .int .i64 tu, .bool sp, .slice qE nE cE] 43)) := row_on HI5.out hb6
  have HJ6 : Hid (w6.heap[w.heap.size + 1]? = some (.cells #[.slice u.q0 u.n0 u.c0, .slice u.q1 u.n1 u.c1, .slice u.q2 u.n2 u.c2, .slice u.q3 u.n3 u.c3, .slice u.q4 u.n4 u.c4, .slice bA nA dA, .slice bP nP dP, .slice bL nL dL, .slice bO nO dO, .int .i64 tu, .bool sp, .slice bE nE dE] 43)) := row_on HJ5.out hb6
  have kI6 := box12_cells HI6.out
  have kJ6 := box12_cells HJ6.out
  clear hb6 HB5 HI5 HJ5 kI5 kJ5
  go_wp2
  go_ret
  exact ⟨rfl, HB6.out⟩
end Go.Proofs.YtphijlknefgkiaaGreatDoor

namespace Go.Proofs.YtphijlknefgkiaaGreatDoor
open Go.ChangeShapes Go.WideShapes Go.ChangeAt Go.RowKit Go.PlainAid
set_option linter.unusedVariables false

set_option maxRecDepth 100000 in
set_option maxHeartbeats 4000000 in
theorem toSetR (s : SH) (X : SX) (w : World) (h : RdX w s X) (hs : SmX s X) :
    Calls Tryz.prog 6 #[SetV s] w fun e w' => ∃ s', e = .returned (SetV s') ∧ RwX w' w.heap.size s' X ∧ Below w.heap.size w w' := by
  have HX : Hid (RdX w s X) := h
  have HS : Hid (SmX s X) := hs
  have HB0 : Hid (Below w.heap.size w (((w.alloc (.cells #[.slice s.q0 s.n0 s.c0, .slice s.q1 s.n1 s.c1, .slice s.q2 s.n2 s.c2, .slice s.q3 s.n3 s.c3, .slice s.q4 s.n4 s.c4] 28)).alloc (.cells #[.slice none 0 0, .slice none 0 0, .slice none 0 0, .slice none 0 0, .slice none 0 0] 35)).alloc (.cells #[.slice none 0 0, .slice none 0 0, .slice none 0 0, .slice none 0 0, .slice none 0 0] 35))) := (((Below.refl _ _).alloc (Nat.le_refl _) _).alloc (by simp) _).alloc (by simp; omega) _
  have HI0 : Hid ((((w.alloc (.cells #[.slice s.q0 s.n0 s.c0, .slice s.q1 s.n1 s.c1, .slice s.q2 s.n2 s.c2, .slice s.q3 s.n3 s.c3, .slice s.q4 s.n4 s.c4] 28)).alloc (.cells #[.slice none 0 0, .slice none 0 0, .slice none 0 0, .slice none 0 0, .slice none 0 0] 35)).alloc (.cells #[.slice none 0 0, .slice none 0 0, .slice none 0 0, .slice none 0 0, .slice none 0 0] 35)).heap[w.heap.size]? = some (.cells #[.slice s.q0 s.n0 s.c0, .slice s.q1 s.n1 s.c1, .slice s.q2 s.n2 s.c2, .slice s.q3 s.n3 s.c3, .slice s.q4 s.n4 s.c4] 28)) :=
    row_on (row_on (heap_new w _) ((Below.refl _ _).alloc (Nat.le_refl _) _)) ((Below.refl _ _).alloc (Nat.le_refl _) _)
  have HZ0 : Hid ((((w.alloc (.cells #[.slice s.q0 s.n0 s.c0, .slice s.q1 s.n1 s.c1, .slice s.q2 s.n2 s.c2, .slice s.q3 s.n3 s.c3, .slice s.q4 s.n4 s.c4] 28)).alloc (.cells #[.slice none 0 0, .slice none 0 0, .slice none 0 0, .slice none 0 0, .slice none 0 0] 35)).alloc (.cells #[.slice none 0 0, .slice none 0 0, .slice none 0 0, .slice none 0 0, .slice none 0 0] 35)).heap[w.heap.size + 1]? = some (.cells #[.slice none 0 0, .slice none 0 0, .slice none 0 0, .slice none 0 0, .slice none 0 0] 35)) := by
    have h1 := heap_new (w.alloc (.cells #[.slice s.q0 s.n0 s.c0, .slice s.q1 s.n1 s.c1, .slice s.q2 s.n2 s.c2, .slice s.q3 s.n3 s.c3, .slice s.q4 s.n4 s.c4] 28)) (.cells #[.slice none 0 0, .slice none 0 0, .slice none 0 0, .slice none 0 0, .slice none 0 0] 35)
    have e1 : (w.alloc (.cells #[.slice s.q0 s.n0 s.c0, .slice s.q1 s.n1 s.c1, .slice s.q2 s.n2 s.c2, .slice s.q3 s.n3 s.c3, .slice s.q4 s.n4 s.c4] 28)).heap.size = w.heap.size + 1 := by simp
    rw [e1] at h1
    exact row_on h1 ((Below.refl _ _).alloc (Nat.le_refl _) _)
  have HO0 : Hid ((((w.alloc (.cells #[.slice s.q0 s.n0 s.c0, .slice s.q1 s.n1 s.c1, .slice s.q2 s.n2 s.c2, .slice s.q3 s.n3 s.c3, .slice s.q4 s.n4 s.c4] 28)).alloc (.cells #[.slice none 0 0, .slice none 0 0, .slice none 0 0, .slice none 0 0, .slice none 0 0] 35)).alloc (.cells #[.slice none 0 0, .slice none 0 0, .slice none 0 0, .slice none 0 0, .slice none 0 0] 35)).heap[w.heap.size + 1 + 1]? = some (.cells #[.slice none 0 0, .slice none 0 0, .slice none 0 0, .slice none 0 0, .slice none 0 0] 35)) := by
    have h1 := heap_new ((w.alloc (.cells #[.slice s.q0 s.n0 s.c0, .slice s.q1 s.n1 s.c1, .slice s.q2 s.n2 s.c2, .slice s.q3 s.n3 s.c3, .slice s.q4 s.n4 s.c4] 28)).alloc (.cells #[.slice none 0 0, .slice none 0 0, .slice none 0 0, .slice none 0 0, .slice none 0 0] 35)) (.cells #[.slice none 0 0, .slice none 0 0, .slice none 0 0, .slice none 0 0, .slice none 0 0] 35)
    have e1 : ((w.alloc (.cells #[.slice s.q0 s.n0 s.c0, .slice s.q1 s.n1 s.c1, .slice s.q2 s.n2 s.c2, .slice s.q3 s.n3 s.c3, .slice s.q4 s.n4 s.c4] 28)).alloc (.cells #[.slice none 0 0, .slice none 0 0, .slice none 0 0, .slice none 0 0, .slice none 0 0] 35)).heap.size = w.heap.size + 1 + 1 := by simp
    rw [e1] at h1
    exact h1
  clear h hs
  unfold SetV
  go_enter Tryz.func6, Tryz.ntmps6
  go_wp2_with fail
  refine (R.toRs s.q0 X.R s.n0 s.c0 HX.out.l0 HS.out.n0 _ (HX.out.r0.keep HB0.out (Nat.le_refl _))).mono ?_
  rintro e v1 ⟨rfl, hrow0, hb1⟩
  obtain ⟨g0, hg0⟩ : ∃ k, (((w.alloc (.cells #[.slice s.q0 s.n0 s.c0, .slice s.q1 s.n1 s.c1, .slice s.q2 s.n2 s.c2, .slice s.q3 s.n3 s.c3, .slice s.q4 s.n4 s.c4] 28)).alloc (.cells #[.slice none 0 0, .slice none 0 0, .slice none 0 0, .slice none 0 0, .slice none 0 0] 35)).alloc (.cells #[.slice none 0 0, .slice none 0 0, .slice none 0 0, .slice none 0 0, .slice none 0 0] 35)).heap.size = k := ⟨_, rfl⟩
  have hlt0 : w.heap.size + 1 + 1 < g0 := by rw [← hg0]; exact row_lt HO0.out
  rw [hg0] at hrow0
  try rw [hg0]
  try (have hg0' := hg0; simp only [size_alloc', World.alloc, Array.size_push] at hg0')
  have HI0b : Hid (v1.heap[w.heap.size]? = some (.cells #[.slice s.q0 s.n0 s.c0, .slice s.q1 s.n1 s.c1, .slice s.q2 s.n2 s.c2, .slice s.q3 s.n3 s.c3, .slice s.q4 s.n4 s.c4] 28)) := row_on HI0.out hb1
  have HZ0b : Hid (v1.heap[w.heap.size + 1]? = some (.cells #[.slice none 0 0, .slice none 0 0, .slice none 0 0, .slice none 0 0, .slice none 0 0] 35)) := row_on HZ0.out hb1
  have HO0b : Hid (v1.heap[w.heap.size + 1 + 1]? = some (.cells #[.slice none 0 0, .slice none 0 0, .slice none 0 0, .slice none 0 0, .slice none 0 0] 35)) := row_on HO0.out hb1
  have HB0b : Hid (Below w.heap.size w v1) := bel_on (Nat.le_refl _) HB0.out hb1
  have HI1 : Hid ((v1.setCell ⟨w.heap.size + 1 + 1, 0, none⟩ (.slice (some ⟨g0, 0, none⟩) s.n0 s.n0)).heap[w.heap.size]? = some (.cells #[.slice s.q0 s.n0 s.c0, .slice s.q1 s.n1 s.c1, .slice s.q2 s.n2 s.c2, .slice s.q3 s.n3 s.c3, .slice s.q4 s.n4 s.c4] 28)) := set_far HI0b.out (by omega)
  have HZ1 : Hid ((v1.setCell ⟨w.heap.size + 1 + 1, 0, none⟩ (.slice (some ⟨g0, 0, none⟩) s.n0 s.n0)).heap[w.heap.size + 1]? = some (.cells #[.slice none 0 0, .slice none 0 0, .slice none 0 0, .slice none 0 0, .slice none 0 0] 35)) := set_far HZ0b.out (by omega)
  have HO1 : Hid ((v1.setCell ⟨w.heap.size + 1 + 1, 0, none⟩ (.slice (some ⟨g0, 0, none⟩) s.n0 s.n0)).heap[w.heap.size + 1 + 1]? = some (.cells #[.slice (some ⟨g0, 0, none⟩) s.n0 s.n0, .slice none 0 0, .slice none 0 0, .slice none 0 0, .slice none 0 0] 35)) := set_row5 HO0b.out 0 _
  have HB1 : Hid (Below w.heap.size w (v1.setCell ⟨w.heap.size + 1 + 1, 0, none⟩ (.slice (some ⟨g0, 0, none⟩) s.n0 s.n0))) := HB0b.out.setCell (by simp; omega) _
  have HQ0_1 : Hid (R.RowR (v1.setCell ⟨w.heap.size + 1 + 1, 0, none⟩ (.slice (some ⟨g0, 0, none⟩) s.n0 s.n0)) g0 X.R) := set_far hrow0 (by omega)
  have k0 := boxO_cells HI0b.out
  have o0 := boxO_cells HO0b.out
  skip
  clear hb1 hrow0 hg0 HI0 HZ0 HO0 HB0 HI0b HZ0b HO0b HB0b  
  go_wp2_with fail
  refine (toRs s.q1 X.W s.n1 s.c1 HX.out.l1 HS.out.n1 _ (HX.out.r1.keep HB1.out (Nat.le_refl _))).mono ?_
  rintro e v2 ⟨rfl, hrow1, hb2⟩
  obtain ⟨g1, hg1⟩ : ∃ k, (v1.setCell ⟨w.heap.size + 1 + 1, 0, none⟩ (.slice (some ⟨g0, 0, none⟩) s.n0 s.n0)).heap.size = k := ⟨_, rfl⟩
  have hlt1 : w.heap.size + 1 + 1 < g1 := by rw [← hg1]; exact row_lt HO1.out
  rw [hg1] at hrow1
  try rw [hg1]
  try (have hg1' := hg1; simp only [size_alloc', World.alloc, Array.size_push] at hg1')
  have HI1b : Hid (v2.heap[w.heap.size]? = some (.cells #[.slice s.q0 s.n0 s.c0, .slice s.q1 s.n1 s.c1, .slice s.q2 s.n2 s.c2, .slice s.q3 s.n3 s.c3, .slice s.q4 s.n4 s.c4] 28)) := row_on HI1.out hb2
  have HZ1b : Hid (v2.heap[w.heap.size + 1]? = some (.cells #[.slice none 0 0, .slice none 0 0, .slice none 0 0, .slice none 0 0, .slice none 0 0] 35)) := row_on HZ1.out hb2
  have HO1b : Hid (v2.heap[w.heap.size + 1 + 1]? = some (.cells #[.slice (some ⟨g0, 0, none⟩) s.n0 s.n0, .slice none 0 0, .slice none 0 0, .slice none 0 0, .slice none 0 0] 35)) := row_on HO1.out hb2
  have HB1b : Hid (Below w.heap.size w v2) := bel_on (Nat.le_refl _) HB1.out hb2
  have HQ0_1b : Hid (R.RowR v2 g0 X.R) := HQ0_1.out.on hb2
  have HI2 : Hid ((v2.setCell ⟨w.heap.size + 1 + 1, 1, none⟩ (.slice (some ⟨g1, 0, none⟩) s.n1 s.n1)).heap[w.heap.size]? = some (.cells #[.slice s.q0 s.n0 s.c0, .slice s.q1 s.n1 s.c1, .slice s.q2 s.n2 s.c2, .slice s.q3 s.n3 s.c3, .slice s.q4 s.n4 s.c4] 28)) := set_far HI1b.out (by omega)
  have HZ2 : Hid ((v2.setCell ⟨w.heap.size + 1 + 1, 1, none⟩ (.slice (some ⟨g1, 0, none⟩) s.n1 s.n1)).heap[w.heap.size + 1]? = some (.cells #[.slice none 0 0, .slice none 0 0, .slice none 0 0, .slice none 0 0, .slice none 0 0] 35)) := set_far HZ1b.out (by omega)
  have HO2 : Hid ((v2.setCell ⟨w.heap.size + 1 + 1, 1, none⟩ (.slice (some ⟨g1, 0, none⟩) s.n1 s.n1)).heap[w.heap.size + 1 + 1]? = some (.cells #[.slice (some ⟨g0, 0, none⟩) s.n0 s.n0, .slice (some ⟨g1, 0, none⟩) s.n1 s.n1, .slice none 0 0, .slice none 0 0, .slice none 0 0] 35)) := set_row5 HO1b.out 1 _
  have HB2 : Hid (Below w.heap.size w (v2.setCell ⟨w.heap.size + 1 + 1, 1, none⟩ (.slice (some ⟨g1, 0, none⟩) s.n1 s.n1))) := HB1b.out.setCell (by simp; omega) _
  have HQ0_2 : Hid (R.RowR (v2.setCell ⟨w.heap.size + 1 + 1, 1, none⟩ (.slice (some ⟨g1, 0, none⟩) s.n1 s.n1)) g0 X.R) := set_far HQ0_1b.out (by omega)
  have HQ1_2 : Hid (RowR (v2.setCell ⟨w.heap.size + 1 + 1, 1, none⟩ (.slice (some ⟨g1, 0, none⟩) s.n1 s.n1)) g1 X.W) := set_far hrow1 (by omega)
  have k1 := boxO_cells HI1b.out
  have o1 := boxO_cells HO1b.out
  skip
  clear hb2 hrow1 hg1 HI1 HZ1 HO1 HB1 HI1b HZ1b HO1b HB1b HQ0_1 HQ0_1b k0 o0
  go_wp2_with fail
  refine (toOs s.q2 X.O s.n2 s.c2 HX.out.l2 HS.out.n2 _ (HX.out.r2.keep HB2.out (Nat.le_refl _))).mono ?_
  rintro e v3 ⟨rfl, hrow2, hb3⟩
  obtain ⟨g2, hg2⟩ : ∃ k, (v2.setCell ⟨w.heap.size + 1 + 1, 1, none⟩ (.slice (some ⟨g1, 0, none⟩) s.n1 s.n1)).heap.size = k := ⟨_, rfl⟩
  have hlt2 : w.heap.size + 1 + 1 < g2 := by rw [← hg2]; exact row_lt HO2.out
  rw [hg2] at hrow2
  try rw [hg2]
  try (have hg2' := hg2; simp only [size_alloc', World.alloc, Array.size_push] at hg2')
  have HI2b : Hid (v3.heap[w.heap.size]? = some (.cells #[.slice s.q0 s.n0 s.c0, .slice s.q1 s.n1 s.c1, .slice s.q2 s.n2 s.c2, .slice s.q3 s.n3 s.c3, .slice s.q4 s.n4 s.c4] 28)) := row_on HI2.out hb3
  have HZ2b : Hid (v3.heap[w.heap.size + 1]? = some (.cells #[.slice none 0 0, .slice none 0 0, .slice none 0 0, .slice none 0 0, .slice none 0 0] 35)) := row_on HZ2.out hb3
  have HO2b : Hid (v3.heap[w.heap.size + 1 + 1]? = some (.cells #[.slice (some ⟨g0, 0, none⟩) s.n0 s.n0, .slice (some ⟨g1, 0, none⟩) s.n1 s.n1, .slice none 0 0, .slice none 0 0, .slice none 0 0] 35)) := row_on HO2.out hb3
  have HB2b : Hid (Below w.heap.size w v3) := bel_on (Nat.le_refl _) HB2.out hb3
  have HQ0_2b : Hid (R.RowR v3 g0 X.R) := HQ0_2.out.on hb3
  have HQ1_2b : Hid (RowR v3 g1 X.W) := HQ1_2.out.on hb3
  have HI3 : Hid ((v3.setCell ⟨w.heap.size + 1 + 1, 2, none⟩ (.slice (some ⟨g2, 0, none⟩) s.n2 s.n2)).heap[w.heap.size]? = some (.cells #[.slice s.q0 s.n0 s.c0, .slice s.q1 s.n1 s.c1, .slice s.q2 s.n2 s.c2, .slice s.q3 s.n3 s.c3, .slice s.q4 s.n4 s.c4] 28)) := set_far HI2b.out (by omega)
  have HZ3 : Hid ((v3.setCell ⟨w.heap.size + 1 + 1, 2, none⟩ (.slice (some ⟨g2, 0, none⟩) s.n2 s.n2)).heap[w.heap.size + 1]? = some (.cells #[.slice none 0 0, .slice none 0 0, .slice none 0 0, .slice none 0 0, .slice none 0 0] 35)) := set_far HZ2b.out (by omega)
  have HO3 : Hid ((v3.setCell ⟨w.heap.size + 1 + 1, 2, none⟩ (.slice (some ⟨g2, 0, none⟩) s.n2 s.n2)).heap[w.heap.size + 1 + 1]? = some (.cells #[.slice (some ⟨g0, 0, none⟩) s.n0 s.n0, .slice (some ⟨g1, 0, none⟩) s.n1 s.n1, .slice (some ⟨g2, 0, none⟩) s.n2 s.n2, .slice none 0 0, .slice none 0 0] 35)) := set_row5 HO2b.out 2 _
  have HB3 : Hid (Below w.heap.size w (v3.setCell ⟨w.heap.size + 1 + 1, 2, none⟩ (.slice (some ⟨g2, 0, none⟩) s.n2 s.n2))) := HB2b.out.setCell (by simp; omega) _
  have HQ0_3 : Hid (R.RowR (v3.setCell ⟨w.heap.size + 1 + 1, 2, none⟩ (.slice (some ⟨g2, 0, none⟩) s.n2 s.n2)) g0 X.R) := set_far HQ0_2b.out (by omega)
  have HQ1_3 : Hid (RowR (v3.setCell ⟨w.heap.size + 1 + 1, 2, none⟩ (.slice (some ⟨g2, 0, none⟩) s.n2 s.n2)) g1 X.W) := set_far HQ1_2b.out (by omega)
  have HQ2_3 : Hid (RowO (v3.setCell ⟨w.heap.size + 1 + 1, 2, none⟩ (.slice (some ⟨g2, 0, none⟩) s.n2 s.n2)) g2 X.O) := set_far hrow2 (by omega)
  have k2 := boxO_cells HI2b.out
  have o2 := boxO_cells HO2b.out
  skip
  clear hb3 hrow2 hg2 HI2 HZ2 HO2 HB2 HI2b HZ2b HO2b HB2b HQ0_2 HQ0_2b HQ1_2 HQ1_2b k1 o1
  go_wp2_with fail
  refine (toUs s.q3 X.U s.n3 s.c3 HX.out.l3 HS.out.n3 _ (HX.out.r3.keep HB3.out (Nat.le_refl _))).mono ?_
  rintro e v4 ⟨rfl, hrow3, hb4⟩
  obtain ⟨g3, hg3⟩ : ∃ k, (v3.setCell ⟨w.heap.size + 1 + 1, 2, none⟩ (.slice (some ⟨g2, 0, none⟩) s.n2 s.n2)).heap.size = k := ⟨_, rfl⟩
  have hlt3 : w.heap.size + 1 + 1 < g3 := by rw [← hg3]; exact row_lt HO3.out
  rw [hg3] at hrow3
  try rw [hg3]
  try (have hg3' := hg3; simp only [size_alloc', World.alloc, Array.size_push] at hg3')
  have HI3b : Hid (v4.heap[w.heap.size]? = some (.cells #[.slice s.q0 s.n0 s.c0, .slice s.q1 s.n1 s.c1, .slice s.q2 s.n2 s.c2, .slice s.q3 s.n3 s.c3, .slice s.q4 s.n4 s.c4] 28)) := row_on HI3.out hb4
  have HZ3b : Hid (v4.heap[w.heap.size + 1]? = some (.cells #[.slice none 0 0, .slice none 0 0, .slice none 0 0, .slice none 0 0, .slice none 0 0] 35)) := row_on HZ3.out hb4
  have HO3b : Hid (v4.heap[w.heap.size + 1 + 1]? = some (.cells #[.slice (some ⟨g0, 0, none⟩) s.n0 s.n0, .slice (some ⟨g1, 0, none⟩) s.n1 s.n1, .slice (some ⟨g2, 0, none⟩) s.n2 s.n2, .slice none 0 0, .slice none 0 0] 35)) := row_on HO3.out hb4
  have HB3b : Hid (Below w.heap.size w v4) := bel_on (Nat.le_refl _) HB3.out hb4
  have HQ0_3b : Hid (R.RowR v4 g0 X.R) := HQ0_3.out.on hb4
  have HQ1_3b : Hid (RowR v4 g1 X.W) := HQ1_3.out.on hb4
  have HQ2_3b : Hid (RowO v4 g2 X.O) := HQ2_3.out.on hb4
  have HI4 : Hid ((v4.setCell ⟨w.heap.size + 1 + 1, 3, none⟩ (.slice (some ⟨g3, 0, none⟩) s.n3 s.n3)).heap[w.heap.size]? = some (.cells #[.slice s.q0 s.n0 s.c0, .slice s.q1 s.n1 s.c1, .slice s.q2 s.n2 s.c2, .slice s.q3 s.n3 s.c3, .slice s.q4 s.n4 s.c4] 28)) := set_far HI3b.out (by omega)
  have HZ4 : Hid ((v4.setCell ⟨w.heap.size + 1 + 1, 3, none⟩ (.slice (some ⟨g3, 0, none⟩) s.n3 s.n3)).heap[w.heap.size + 1]? = some (.cells #[.slice none 0 0, .slice none 0 0, .slice none 0 0, .slice none 0 0, .slice none 0 0] 35)) := set_far HZ3b.out (by omega)
  have HO4 : Hid ((v4.setCell ⟨w.heap.size + 1 + 1, 3, none⟩ (.slice (some ⟨g3, 0, none⟩) s.n3 s.n3)).heap[w.heap.size + 1 + 1]? = some (.cells #[.slice (some ⟨g0, 0, none⟩) s.n0 s.n0, .slice (some ⟨g1, 0, none⟩) s.n1 s.n1, .slice (some ⟨g2, 0, none⟩) s.n2 s.n2, .slice (some ⟨g3, 0, none⟩) s.n3 s.n3, .slice none 0 0] 35)) := set_row5 HO3b.out 3 _
  have HB4 : Hid (Below w.heap.size w (v4.setCell ⟨w.heap.size + 1 + 1, 3, none⟩ (.slice (some ⟨g3, 0, none⟩) s.n3 s.n3))) := HB3b.out.setCell (by simp; omega) _
  have HQ0_4 : Hid (R.RowR (v4.setCell ⟨w.heap.size + 1 + 1, 3, none⟩ (.slice (some ⟨g3, 0, none⟩) s.n3 s.n3)) g0 X.R) := set_far HQ0_3b.out (by omega)
  have HQ1_4 : Hid (RowR (v4.setCell ⟨w.heap.size + 1 + 1, 3, none⟩ (.slice (some ⟨g3, 0, none⟩) s.n3 s.n3)) g1 X.W) := set_far HQ1_3b.out (by omega)
  have HQ2_4 : Hid (RowO (v4.setCell ⟨w.heap.size + 1 + 1, 3, none⟩ (.slice (some ⟨g3, 0, none⟩) s.n3 s.n3)) g2 X.O) := set_far HQ2_3b.out (by omega)
  have HQ3_4 : Hid (RowU (v4.setCell ⟨w.heap.size + 1 + 1, 3, none⟩ (.slice (some ⟨g3, 0, none⟩) s.n3 s.n3)) g3 X.U) := set_far hrow3 (by omega)
  have k3 := boxO_cells HI3b.out
  have o3 := boxO_cells HO3b.out
  skip
  clear hb4 hrow3 hg3 HI3 HZ3 HO3 HB3 HI3b HZ3b HO3b HB3b HQ0_3 HQ0_3b HQ1_3 HQ1_3b HQ2_3 HQ2_3b k2 o2
  go_wp2_with fail
  refine (S.toSs s.q4 X.S s.n4 s.c4 HX.out.l4 HS.out.n4 _ (HX.out.r4.keep HB4.out (Nat.le_refl _))).mono ?_
  rintro e v5 ⟨rfl, hrow4, hb5⟩
  obtain ⟨g4, hg4⟩ : ∃ k, (v4.setCell ⟨w.heap.size + 1 + 1, 3, none⟩ (.slice (some ⟨g3, 0, none⟩) s.n3 s.n3)).heap.size = k := ⟨_, rfl⟩
  have hlt4 : w.heap.size + 1 + 1 < g4 := by rw [← hg4]; exact row_lt HO4.out
  rw [hg4] at hrow4
  try rw [hg4]
  try (have hg4' := hg4; simp only [size_alloc', World.alloc, Array.size_push] at hg4')
  have HI4b : Hid (v5.heap[w.heap.size]? = some (.cells #[.slice s.q0 s.n0 s.c0, .slice s.q1 s.n1 s.c1, .slice s.q2 s.n2 s.c2, .slice s.q3 s.n3 s.c3, .slice s.q4 s.n4 s.c4] 28)) := row_on HI4.out hb5
  have HZ4b : Hid (v5.heap[w.heap.size + 1]? = some (.cells #[.slice none 0 0, .slice none 0 0, .slice none 0 0, .slice none 0 0, .slice none 0 0] 35)) := row_on HZ4.out hb5
  have HO4b : Hid (v5.heap[w.heap.size + 1 + 1]? = some (.cells #[.slice (some ⟨g0, 0, none⟩) s.n0 s.n0, .slice (some ⟨g1, 0, none⟩) s.n1 s.n1, .slice (some ⟨g2, 0, none⟩) s.n2 s.n2, .slice (some ⟨g3, 0, none⟩) s.n3 s.n3, .slice none 0 0] 35)) := row_on HO4.out hb5
  have HB4b : Hid (Below w.heap.size w v5) := bel_on (Nat.le_refl _) HB4.out hb5
  have HQ0_4b : Hid (R.RowR v5 g0 X.R) := HQ0_4.out.on hb5
  have HQ1_4b : Hid (RowR v5 g1 X.W) := HQ1_4.out.on hb5
  have HQ2_4b : Hid (RowO v5 g2 X.O) := HQ2_4.out.on hb5
  have HQ3_4b : Hid (RowU v5 g3 X.U) := HQ3_4.out.on hb5
  have HI5 : Hid ((v5.setCell ⟨w.heap.size + 1 + 1, 4, none⟩ (.slice (some ⟨g4, 0, none⟩) s.n4 s.n4)).heap[w.heap.size]? = some (.cells #[.slice s.q0 s.n0 s.c0, .slice s.q1 s.n1 s.c1, .slice s.q2 s.n2 s.c2, .slice s.q3 s.n3 s.c3, .slice s.q4 s.n4 s.c4] 28)) := set_far HI4b.out (by omega)
  have HZ5 : Hid ((v5.setCell ⟨w.heap.size + 1 + 1, 4, none⟩ (.slice (some ⟨g4, 0, none⟩) s.n4 s.n4)).heap[w.heap.size + 1]? = some (.cells #[.slice none 0 0, .slice none 0 0, .slice none 0 0, .slice none 0 0, .slice none 0 0] 35)) := set_far HZ4b.out (by omega)
  have HO5 : Hid ((v5.setCell ⟨w.heap.size + 1 + 1, 4, none⟩ (.slice (some ⟨g4, 0, none⟩) s.n4 s.n4)).heap[w.heap.size + 1 + 1]? = some (.cells #[.slice (some ⟨g0, 0, none⟩) s.n0 s.n0, .slice (some ⟨g1, 0, none⟩) s.n1 s.n1, .slice (some ⟨g2, 0, none⟩) s.n2 s.n2, .slice (some ⟨g3, 0, none⟩) s.n3 s.n3, .slice (some ⟨g4, 0, none⟩) s.n4 s.n4] 35)) := set_row5 HO4b.out 4 _
  have HB5 : Hid (Below w.heap.size w (v5.setCell ⟨w.heap.size + 1 + 1, 4, none⟩ (.slice (some ⟨g4, 0, none⟩) s.n4 s.n4))) := HB4b.out.setCell (by simp; omega) _
  have HQ0_5 : Hid (R.RowR (v5.setCell ⟨w.heap.size + 1 + 1, 4, none⟩ (.slice (some ⟨g4, 0, none⟩) s.n4 s.n4)) g0 X.R) := set_far HQ0_4b.out (by omega)
  have HQ1_5 : Hid (RowR (v5.setCell ⟨w.heap.size + 1 + 1, 4, none⟩ (.slice (some ⟨g4, 0, none⟩) s.n4 s.n4)) g1 X.W) := set_far HQ1_4b.out (by omega)
  have HQ2_5 : Hid (RowO (v5.setCell ⟨w.heap.size + 1 + 1, 4, none⟩ (.slice (some ⟨g4, 0, none⟩) s.n4 s.n4)) g2 X.O) := set_far HQ2_4b.out (by omega)
  have HQ3_5 : Hid (RowU (v5.setCell ⟨w.heap.size + 1 + 1, 4, none⟩ (.slice (some ⟨g4, 0, none⟩) s.n4 s.n4)) g3 X.U) := set_far HQ3_4b.out (by omega)
  have HQ4_5 : Hid (S.RowS (v5.setCell ⟨w.heap.size + 1 + 1, 4, none⟩ (.slice (some ⟨g4, 0, none⟩) s.n4 s.n4)) g4 X.S) := set_far hrow4 (by omega)
  have k4 := boxO_cells HI4b.out
  have o4 := boxO_cells HO4b.out
  have z4 := boxO_cells HZ4b.out
  clear hb5 hrow4 hg4 HI4 HZ4 HO4 HB4 HI4b HZ4b HO4b HB4b HQ0_4 HQ0_4b HQ1_4 HQ1_4b HQ2_4 HQ2_4b HQ3_4 HQ3_4b k3 o3
  clear k4
  go_wp2
  refine bodyPost_ret (v := .agg #[.slice (some ⟨g0, 0, none⟩) s.n0 s.n0, .slice (some ⟨g1, 0, none⟩) s.n1 s.n1, .slice (some ⟨g2, 0, none⟩) s.n2 s.n2, .slice (some ⟨g3, 0, none⟩) s.n3 s.n3, .slice (some ⟨g4, 0, none⟩) s.n4 s.n4]) (by simp [results, Tryz.results6, go_sem, z4]) rfl ⟨⟨some ⟨g0, 0, none⟩, s.n0, s.n0, some ⟨g1, 0, none⟩, s.n1, s.n1, some ⟨g2, 0, none⟩, s.n2, s.n2, some ⟨g3, 0, none⟩, s.n3, s.n3, some ⟨g4, 0, none⟩, s.n4, s.n4⟩, rfl, ⟨g0, g1, g2, g3, g4, by rw [HX.out.l0, HX.out.l1, HX.out.l2, HX.out.l3, HX.out.l4], ⟨by omega, by omega, by omega, by omega, by omega⟩, set_far5 HQ0_5.out (by omega), set_far5 HQ1_5.out (by omega), set_far5 HQ2_5.out (by omega), set_far5 HQ3_5.out (by omega), set_far5 HQ4_5.out (by omega)⟩, ?_⟩
  exact ((((HB5.out.setCell (by simp) _).setCell (by simp) _).setCell (by simp) _).setCell (by simp) _).setCell (by simp) _
end Go.Proofs.YtphijlknefgkiaaGreatDoor

namespace Go.Proofs.YtphijlknefgkiaaGreatDoor
open Go.ChangeShapes Go.WideShapes Go.ChangeAt Go.RowKit Go.PlainAid
set_option linter.unusedVariables false
set_option linter.unusedSimpArgs false

def zeroX : SX := ⟨[], [], [], [], []⟩
def z64k : List Int := List.replicate 64 0
def z8k : List Int := List.replicate 8 0
/-- a kernel that is begun -/
def bornK (X : SX) : KX := ⟨X, z64k, List.replicate X.R.length ⟨0, 0, [], 0, 0, 0⟩, List.replicate X.O.length [], z8k, 0, false, []⟩
/-- no kernel -/
def noneK : KX := ⟨zeroX, [], [], [], [], 0, false, []⟩
def noneH : KH := ⟨⟨none, 0, 0, none, 0, 0, none, 0, 0, none, 0, 0, none, 0, 0⟩, none, 0, none, 0, none, 0, none, 0, none, 0⟩
/-- where a kernel that is begun lies -/
structure Born (w : World) (lo : Nat) (s : SH) (X : SX) (gA gP gL gO : Nat) : Prop where
  x : OwnX w lo s X
  a : RowAt w gA z64k
  p : RowQ w gP (List.replicate X.R.length zeroP)
  l : w.heap[gL]? = some (.cells (Array.replicate X.O.length (Value.slice none 0 0)) 127)
  o : RowAt w gO z8k
  la : lo ≤ gA
  lp : lo ≤ gP
  ll : lo ≤ gL
  lo_ : lo ≤ gO
def bornH (s : SH) (X : SX) (gA gP gL gO : Nat) : KH := ⟨s, some ⟨gA, 0, none⟩, 64, some ⟨gP, 0, none⟩, X.R.length, some ⟨gL, 0, none⟩, X.O.length, some ⟨gO, 0, none⟩, 8, none, 0⟩
theorem Born.on {w w' : World} {lo : Nat} {s : SH} {X : SX} {gA gP gL gO : Nat} (h : Born w lo s X gA gP gL gO) (hb : Below w.heap.size w w') : Born w' lo s X gA gP gL gO :=
  ⟨h.x.bel hb, row_on h.a hb, h.p.on hb, row_on h.l hb, row_on h.o hb, h.la, h.lp, h.ll, h.lo_⟩
theorem Born.less {w : World} {lo lo' : Nat} {s : SH} {X : SX} {gA gP gL gO : Nat} (h : Born w lo s X gA gP gL gO) (hl : lo' ≤ lo) : Born w lo' s X gA gP gL gO :=
  ⟨h.x.less hl, h.a, h.p, h.l, h.o, by have := h.la; omega, by have := h.lp; omega, by have := h.ll; omega, by have := h.lo_; omega⟩
theorem zrow_cell {w : World} {g n : Nat} {v : Value} {T : TypeId} (h : w.heap[g]? = some (.cells (Array.replicate n v) T)) (j : Nat) (hj : j < n) : w.cell? ⟨g, j, none⟩ = some v := by
  rw [cell_of_row w g j _ _ (0, 0) h]
  simp [hj]
theorem Born.rd {w : World} {lo : Nat} {s : SH} {X : SX} {gA gP gL gO : Nat} (h : Born w lo s X gA gP gL gO) : RdK w (bornH s X gA gP gL gO) (bornK X) := by
  refine ⟨h.x.rd, h.a.rd, by simp [bornK, bornH, z64k], ?_, ?_, h.o.rd, by simp [bornK, bornH, z8k], fun h0 => by simp [bornK] at h0⟩
  · intro _
    refine ⟨gP, 0, rfl, fun j hj => ?_⟩
    have hj' : j < X.R.length := by simpa [bornK] using hj
    have hc := h.p.cell j (by simpa using hj')
    simp only [List.getElem_replicate, zeroP] at hc
    rw [Nat.zero_add]
    simp only [bornK, List.getElem_replicate]
    exact ⟨hc.1, hc.2.1, ⟨none, 0, hc.2.2.1, by simp, fun h0 => by simp at h0⟩, hc.2.2.2.1, hc.2.2.2.2.1, hc.2.2.2.2.2⟩
  · intro _
    refine ⟨gL, 0, rfl, fun j hj => ?_⟩
    have hj' : j < X.O.length := by simpa [bornK] using hj
    have hc := zrow_cell h.l j hj'
    rw [Nat.zero_add]
    simp only [bornK, List.getElem_replicate]
    exact ⟨none, 0, hc, by simp, fun h0 => by simp at h0⟩
theorem kerV_born (s : SH) (X : SX) (gA gP gL gO n0 n2 : Nat) (h0 : X.R.length = n0) (h2 : X.O.length = n2) : KerV (bornH s X gA gP gL gO) (bornK X) = .agg #[.slice s.q0 s.n0 s.c0, .slice s.q1 s.n1 s.c1, .slice s.q2 s.n2 s.c2, .slice s.q3 s.n3 s.c3, .slice s.q4 s.n4 s.c4, .slice (some ⟨gA, 0, none⟩) 64 64, .slice (some ⟨gP, 0, none⟩) n0 n0, .slice (some ⟨gL, 0, none⟩) n2 n2, .slice (some ⟨gO, 0, none⟩) 8 8, .int .i64 0, .bool false, .slice none 0 0] := by
  subst h0 h2
  simp [KerV, bornH, bornK, z64k, z8k]
theorem none_rd (w : World) : RdK w noneH noneK :=
  ⟨⟨rfl, fun h => by simp [noneK, zeroX] at h, rfl, fun h => by simp [noneK, zeroX] at h, rfl, fun h => by simp [noneK, zeroX] at h, rfl, fun h => by simp [noneK, zeroX] at h, rfl, fun h => by simp [noneK, zeroX] at h⟩, fun h => by simp [noneK] at h, by simp [noneK], fun h => by simp [noneK] at h, fun h => by simp [noneK] at h, fun h => by simp [noneK] at h, by simp [noneK], fun h => by simp [noneK] at h⟩

theorem mk64 (w : World) : (Instr.makeSlice 36 (.int .i64 64) (.int .i64 64)).run Tryz.prog w = .ok (.slice (some ⟨w.heap.size, 0, none⟩) 64 64) (w.alloc (.cells (intsV z64k).toArray 3)) := by
  have h := run_make_row' (P := Tryz.prog) 36 3 (.int .i64 0) 8 Tryz.underlying36 info3 rfl .i64 .i64 64 (by omega) (by omega) w
  rw [C.made_ints] at h
  exact h
theorem mk8 (w : World) : (Instr.makeSlice 36 (.int .i64 8) (.int .i64 8)).run Tryz.prog w = .ok (.slice (some ⟨w.heap.size, 0, none⟩) 8 8) (w.alloc (.cells (intsV z8k).toArray 3)) := by
  have h := run_make_row' (P := Tryz.prog) 36 3 (.int .i64 0) 8 Tryz.underlying36 info3 rfl .i64 .i64 8 (by omega) (by omega) w
  rw [C.made_ints] at h
  exact h
theorem row_al2 (w : World) (o : Obj) (l : List Int) : RowAt ((w.alloc o).alloc (.cells (intsV l).toArray 3)) (w.heap.size + 1) l := by
  have := heap_new (w.alloc o) (.cells (intsV l).toArray 3)
  simpa [RowAt] using this
theorem arS (w : World) : Calls Tryz.prog 20 #[] w fun e w' => ∃ g, e = .returned (.agg #[.slice (some ⟨g, 0, none⟩) 64 64]) ∧ w.heap.size ≤ g ∧ RowAt w' g z64k ∧ Below w.heap.size w w' := by
  have hmk := mk64
  go_enter Tryz.func20, Tryz.ntmps20
  go_wp2
  refine bodyPost_ret (v := .agg #[.slice (some ⟨w.heap.size + 1, 0, none⟩) 64 64]) (by simp [results, Tryz.results20, go_sem]) rfl ⟨w.heap.size + 1, rfl, by omega, row_al2 w _ z64k, ?_⟩
  exact ((Below.refl _ _).alloc (Nat.le_refl _) _).alloc (by simp) _
theorem arI (w : World) : Calls Tryz.prog 28 #[] w fun e w' => ∃ g, e = .returned (.agg #[.slice (some ⟨g, 0, none⟩) 64 64]) ∧ w.heap.size ≤ g ∧ RowAt w' g z64k ∧ Below w.heap.size w w' := by
  have hmk := mk64
  go_enter Tryz.func28, Tryz.ntmps28
  go_wp2
  refine bodyPost_ret (v := .agg #[.slice (some ⟨w.heap.size + 1, 0, none⟩) 64 64]) (by simp [results, Tryz.results28, go_sem]) rfl ⟨w.heap.size + 1, rfl, by omega, row_al2 w _ z64k, ?_⟩
  exact ((Below.refl _ _).alloc (Nat.le_refl _) _).alloc (by simp) _

theorem set12_row {w : World} {k : Nat} {T : TypeId} {a0 a1 a2 a3 a4 a5 a6 a7 a8 a9 a10 a11 : Value} (h : w.heap[k]? = some (.cells #[a0, a1, a2, a3, a4, a5, a6, a7, a8, a9, a10, a11] T)) (x0 x1 x2 x3 x4 x5 x6 x7 x8 x9 x10 x11 : Value) : ((((((((((((w.setCell ⟨k, 0, none⟩ (x0)).setCell ⟨k, 1, none⟩ (x1)).setCell ⟨k, 2, none⟩ (x2)).setCell ⟨k, 3, none⟩ (x3)).setCell ⟨k, 4, none⟩ (x4)).setCell ⟨k, 5, none⟩ (x5)).setCell ⟨k, 6, none⟩ (x6)).setCell ⟨k, 7, none⟩ (x7)).setCell ⟨k, 8, none⟩ (x8)).setCell ⟨k, 9, none⟩ (x9)).setCell ⟨k, 10, none⟩ (x10)).setCell ⟨k, 11, none⟩ (x11)).heap[k]? = some (.cells #[x0, x1, x2, x3, x4, x5, x6, x7, x8, x9, x10, x11] T) := by
  have e := (set_row5 (set_row5 (set_row5 (set_row5 (set_row5 (set_row5 (set_row5 (set_row5 (set_row5 (set_row5 (set_row5 (set_row5 h 0 x0) 1 x1) 2 x2) 3 x3) 4 x4) 5 x5) 6 x6) 7 x7) 8 x8) 9 x9) 10 x10) 11 x11)
  simpa only [List.setIfInBounds_toArray, List.set_cons_zero, List.set_cons_succ] using e
theorem set12_far {w : World} {k g : Nat} {o : Obj} (h : w.heap[g]? = some o) (hne : g ≠ k) (x0 x1 x2 x3 x4 x5 x6 x7 x8 x9 x10 x11 : Value) : ((((((((((((w.setCell ⟨k, 0, none⟩ (x0)).setCell ⟨k, 1, none⟩ (x1)).setCell ⟨k, 2, none⟩ (x2)).setCell ⟨k, 3, none⟩ (x3)).setCell ⟨k, 4, none⟩ (x4)).setCell ⟨k, 5, none⟩ (x5)).setCell ⟨k, 6, none⟩ (x6)).setCell ⟨k, 7, none⟩ (x7)).setCell ⟨k, 8, none⟩ (x8)).setCell ⟨k, 9, none⟩ (x9)).setCell ⟨k, 10, none⟩ (x10)).setCell ⟨k, 11, none⟩ (x11)).heap[g]? = some o :=
  (set_far (set_far (set_far (set_far (set_far (set_far (set_far (set_far (set_far (set_far (set_far (set_far h hne) hne) hne) hne) hne) hne) hne) hne) hne) hne) hne) hne)
theorem set12_bel {w W : World} {B k : Nat} (h : Below B w W) (hk : B ≤ k) (x0 x1 x2 x3 x4 x5 x6 x7 x8 x9 x10 x11 : Value) : Below B w ((((((((((((W.setCell ⟨k, 0, none⟩ (x0)).setCell ⟨k, 1, none⟩ (x1)).setCell ⟨k, 2, none⟩ (x2)).setCell ⟨k, 3, none⟩ (x3)).setCell ⟨k, 4, none⟩ (x4)).setCell ⟨k, 5, none⟩ (x5)).setCell ⟨k, 6, none⟩ (x6)).setCell ⟨k, 7, none⟩ (x7)).setCell ⟨k, 8, none⟩ (x8)).setCell ⟨k, 9, none⟩ (x9)).setCell ⟨k, 10, none⟩ (x10)).setCell ⟨k, 11, none⟩ (x11)) :=
  (Below.setCell (Below.setCell (Below.setCell (Below.setCell (Below.setCell (Below.setCell (Below.setCell (Below.setCell (Below.setCell (Below.setCell (Below.setCell (Below.setCell h hk _) hk _) hk _) hk _) hk _) hk _) hk _) hk _) hk _) hk _) hk _) hk _)
theorem set12_own {w : World} {B T z n k : Nat} {v : Value} {xs : List Value} (h : w.ownsRow B T z v n xs) (hne : v.ownBlock ≠ some k) (x0 x1 x2 x3 x4 x5 x6 x7 x8 x9 x10 x11 : Value) : ((((((((((((w.setCell ⟨k, 0, none⟩ (x0)).setCell ⟨k, 1, none⟩ (x1)).setCell ⟨k, 2, none⟩ (x2)).setCell ⟨k, 3, none⟩ (x3)).setCell ⟨k, 4, none⟩ (x4)).setCell ⟨k, 5, none⟩ (x5)).setCell ⟨k, 6, none⟩ (x6)).setCell ⟨k, 7, none⟩ (x7)).setCell ⟨k, 8, none⟩ (x8)).setCell ⟨k, 9, none⟩ (x9)).setCell ⟨k, 10, none⟩ (x10)).setCell ⟨k, 11, none⟩ (x11)).ownsRow B T z v n xs :=
  (own_set11 (own_set11 (own_set11 (own_set11 (own_set11 (own_set11 (own_set11 (own_set11 (own_set11 (own_set11 (own_set11 (own_set11 h hne) hne) hne) hne) hne) hne) hne) hne) hne) hne) hne) hne)
theorem set12_ownX {w : World} {B k : Nat} {s : SH} {X : SX} (h : OwnX w B s X) {cs : Array Value} {T : TypeId} (hk : w.heap[k]? = some (.cells cs T)) (hT : FarT T) (x0 x1 x2 x3 x4 x5 x6 x7 x8 x9 x10 x11 : Value) : OwnX ((((((((((((w.setCell ⟨k, 0, none⟩ (x0)).setCell ⟨k, 1, none⟩ (x1)).setCell ⟨k, 2, none⟩ (x2)).setCell ⟨k, 3, none⟩ (x3)).setCell ⟨k, 4, none⟩ (x4)).setCell ⟨k, 5, none⟩ (x5)).setCell ⟨k, 6, none⟩ (x6)).setCell ⟨k, 7, none⟩ (x7)).setCell ⟨k, 8, none⟩ (x8)).setCell ⟨k, 9, none⟩ (x9)).setCell ⟨k, 10, none⟩ (x10)).setCell ⟨k, 11, none⟩ (x11)) B s X :=
  ⟨set12_own h.o0 (own_far11 h.o0 hk hT.t0) x0 x1 x2 x3 x4 x5 x6 x7 x8 x9 x10 x11, set12_own h.o1 (own_far11 h.o1 hk hT.t1) x0 x1 x2 x3 x4 x5 x6 x7 x8 x9 x10 x11, set12_own h.o2 (own_far11 h.o2 hk hT.t2) x0 x1 x2 x3 x4 x5 x6 x7 x8 x9 x10 x11, set12_own h.o3 (own_far11 h.o3 hk hT.t3) x0 x1 x2 x3 x4 x5 x6 x7 x8 x9 x10 x11, set12_own h.o4 (own_far11 h.o4 hk hT.t4) x0 x1 x2 x3 x4 x5 x6 x7 x8 x9 x10 x11⟩
theorem own1 {w : World} {B k i : Nat} {s : SH} {X : SX} {v : Value} (h : OwnX w B s X) {cs : Array Value} {T : TypeId} (hk : w.heap[k]? = some (.cells cs T)) (hT : FarT T) : OwnX (w.setCell ⟨k, i, none⟩ v) B s X :=
  ⟨own_set11 h.o0 (own_far11 h.o0 hk hT.t0), own_set11 h.o1 (own_far11 h.o1 hk hT.t1), own_set11 h.o2 (own_far11 h.o2 hk hT.t2), own_set11 h.o3 (own_far11 h.o3 hk hT.t3), own_set11 h.o4 (own_far11 h.o4 hk hT.t4)⟩
theorem farK : FarT 43 := ⟨by decide, by decide, by decide, by decide, by decide⟩
theorem farS : FarT 35 := ⟨by decide, by decide, by decide, by decide, by decide⟩
theorem rwx_on {w w' : World} {lo : Nat} {s : SH} {X : SX} (h : RwX w lo s X) (hb : Below w.heap.size w w') : RwX w' lo s X := h.agree (fun g _ hg => hb.block g hg)
structure SN (B : Nat) (X : SX) (x y d1 d2 d3 : Bool) (t5 t13 t14 t15 t16 : Value) (w : World) : Prop where
  s : d1 = true → ∃ s', t13 = SetV s' ∧ OwnX w B s' X
  a : d2 = true → ∃ g, t14 = .agg #[.slice (some ⟨g, 0, none⟩) 64 64] ∧ RowAt w g z64k ∧ B ≤ g
  o : x = true → ∃ g, t15 = .slice (some ⟨g, 0, none⟩) 8 8 ∧ RowAt w g z8k ∧ B ≤ g
  b : d3 = true → ∃ (s' : SH) (gA gO : Nat), t16 = .agg #[.slice s'.q0 s'.n0 s'.c0, .slice s'.q1 s'.n1 s'.c1, .slice s'.q2 s'.n2 s'.c2, .slice s'.q3 s'.n3 s'.c3, .slice s'.q4 s'.n4 s'.c4, .slice (some ⟨gA, 0, none⟩) 64 64, .slice none 0 0, .slice none 0 0, .slice (some ⟨gO, 0, none⟩) 8 8, .int .i64 0, .bool false, .slice none 0 0] ∧ OwnX w B s' X ∧ RowAt w gA z64k ∧ RowAt w gO z8k ∧ B ≤ gA ∧ B ≤ gO
  k : y = true → ∃ b, t5 = .pointer (some ⟨b, 0, none⟩) ∧ w.heap[b]? = some (.cells #[.slice none 0 0, .slice none 0 0, .slice none 0 0, .slice none 0 0, .slice none 0 0, .slice none 0 0, .slice none 0 0, .slice none 0 0, .slice none 0 0, .int .i64 0, .bool false, .slice none 0 0] 43) ∧ B ≤ b
theorem SN.on {B : Nat} {X : SX} {x y d1 d2 d3 : Bool} {t5 t13 t14 t15 t16 : Value} {w w' : World} (h : SN B X x y d1 d2 d3 t5 t13 t14 t15 t16 w) (hb : Below w.heap.size w w') : SN B X x y d1 d2 d3 t5 t13 t14 t15 t16 w' :=
  ⟨fun e => by obtain ⟨s', e1, e2⟩ := h.s e; exact ⟨s', e1, e2.bel hb⟩, fun e => by obtain ⟨g, e1, e2, e3⟩ := h.a e; exact ⟨g, e1, row_on e2 hb, e3⟩, fun e => by obtain ⟨g, e1, e2, e3⟩ := h.o e; exact ⟨g, e1, row_on e2 hb, e3⟩,
    fun e => by obtain ⟨s', gA, gO, e1, e2, e3, e4, e5⟩ := h.b e; exact ⟨s', gA, gO, e1, e2.bel hb, row_on e3 hb, row_on e4 hb, e5⟩, fun e => by obtain ⟨b, e1, e2, e3⟩ := h.k e; exact ⟨b, e1, row_on e2 hb, e3⟩⟩
set_option maxRecDepth 100000 in
set_option maxHeartbeats 4000000 in
theorem kernelS (s : SH) (X : SX) (lo : Nat) (f : Int) (hf : FaultX X f) (w : World) (h : RwX w lo s X) (hs : SmX s X) (hwf : WfU X.U) :
    Calls Tryz.prog 5 #[SetV s] w fun e w' => ∃ k K, e = .returned (.tuple #[KerV k K, .int .i64 f]) ∧ RdK w' k K ∧ ((f = 0 ∧ K = bornK X) ∨ (f ≠ 0 ∧ K = noneK)) ∧ Below w.heap.size w w' := by
  obtain ⟨g0, g1, g2, g3, g4, rfl, _, r0, r1, r2, r3, r4⟩ := h.ex
  have hs' := hs
  obtain ⟨k0, k1, k2, k3, k4, kb⟩ := hs'
  dsimp only at k0 k1 k2 k3 k4
  obtain ⟨n0, hn0⟩ : ∃ n, X.R.length = n := ⟨_, rfl⟩
  rw [hn0] at k0
  obtain ⟨n1, hn1⟩ : ∃ n, X.W.length = n := ⟨_, rfl⟩
  rw [hn1] at k1
  obtain ⟨n2, hn2⟩ : ∃ n, X.O.length = n := ⟨_, rfl⟩
  rw [hn2] at k2
  obtain ⟨n3, hn3⟩ : ∃ n, X.U.length = n := ⟨_, rfl⟩
  rw [hn3] at k3
  obtain ⟨n4, hn4⟩ : ∃ n, X.S.length = n := ⟨_, rfl⟩
  rw [hn4] at k4
  have HN : Hid (X.R.length = n0 ∧ X.W.length = n1 ∧ X.O.length = n2 ∧ X.U.length = n3 ∧ X.S.length = n4) := ⟨hn0, hn1, hn2, hn3, hn4⟩
  rw [hn0, hn1, hn2, hn3, hn4] at h hs ⊢
  have HX : Hid (RwX w lo ⟨some ⟨g0, 0, none⟩, n0, n0, some ⟨g1, 0, none⟩, n1, n1, some ⟨g2, 0, none⟩, n2, n2, some ⟨g3, 0, none⟩, n3, n3, some ⟨g4, 0, none⟩, n4, n4⟩ X) := h
  have HS : Hid (SmX ⟨some ⟨g0, 0, none⟩, n0, n0, some ⟨g1, 0, none⟩, n1, n1, some ⟨g2, 0, none⟩, n2, n2, some ⟨g3, 0, none⟩, n3, n3, some ⟨g4, 0, none⟩, n4, n4⟩ X) := hs
  have HF : Hid (FaultX X f) := hf
  have HWF : Hid (WfU X.U) := hwf
  have HB0 : Hid (Below w.heap.size w ((w.alloc (.cells #[.slice (some ⟨g0, 0, none⟩) n0 n0, .slice (some ⟨g1, 0, none⟩) n1 n1, .slice (some ⟨g2, 0, none⟩) n2 n2, .slice (some ⟨g3, 0, none⟩) n3 n3, .slice (some ⟨g4, 0, none⟩) n4 n4] 35)).alloc (.cells #[.slice none 0 0, .slice none 0 0, .slice none 0 0, .slice none 0 0, .slice none 0 0, .slice none 0 0, .slice none 0 0, .slice none 0 0, .slice none 0 0, .int .i64 0, .bool false, .slice none 0 0] 43))) := ((Below.refl _ _).alloc (Nat.le_refl _) _).alloc (by simp) _
  have HI0 : Hid (((w.alloc (.cells #[.slice (some ⟨g0, 0, none⟩) n0 n0, .slice (some ⟨g1, 0, none⟩) n1 n1, .slice (some ⟨g2, 0, none⟩) n2 n2, .slice (some ⟨g3, 0, none⟩) n3 n3, .slice (some ⟨g4, 0, none⟩) n4 n4] 35)).alloc (.cells #[.slice none 0 0, .slice none 0 0, .slice none 0 0, .slice none 0 0, .slice none 0 0, .slice none 0 0, .slice none 0 0, .slice none 0 0, .slice none 0 0, .int .i64 0, .bool false, .slice none 0 0] 43)).heap[w.heap.size]? = some (.cells #[.slice (some ⟨g0, 0, none⟩) n0 n0, .slice (some ⟨g1, 0, none⟩) n1 n1, .slice (some ⟨g2, 0, none⟩) n2 n2, .slice (some ⟨g3, 0, none⟩) n3 n3, .slice (some ⟨g4, 0, none⟩) n4 n4] 35)) := row_on (heap_new w _) ((Below.refl _ _).alloc (Nat.le_refl _) _)
  have HZ0 : Hid (((w.alloc (.cells #[.slice (some ⟨g0, 0, none⟩) n0 n0, .slice (some ⟨g1, 0, none⟩) n1 n1, .slice (some ⟨g2, 0, none⟩) n2 n2, .slice (some ⟨g3, 0, none⟩) n3 n3, .slice (some ⟨g4, 0, none⟩) n4 n4] 35)).alloc (.cells #[.slice none 0 0, .slice none 0 0, .slice none 0 0, .slice none 0 0, .slice none 0 0, .slice none 0 0, .slice none 0 0, .slice none 0 0, .slice none 0 0, .int .i64 0, .bool false, .slice none 0 0] 43)).heap[w.heap.size + 1]? = some (.cells #[.slice none 0 0, .slice none 0 0, .slice none 0 0, .slice none 0 0, .slice none 0 0, .slice none 0 0, .slice none 0 0, .slice none 0 0, .slice none 0 0, .int .i64 0, .bool false, .slice none 0 0] 43)) := by
    have h1 := heap_new (w.alloc (.cells #[.slice (some ⟨g0, 0, none⟩) n0 n0, .slice (some ⟨g1, 0, none⟩) n1 n1, .slice (some ⟨g2, 0, none⟩) n2 n2, .slice (some ⟨g3, 0, none⟩) n3 n3, .slice (some ⟨g4, 0, none⟩) n4 n4] 35)) (.cells #[.slice none 0 0, .slice none 0 0, .slice none 0 0, .slice none 0 0, .slice none 0 0, .slice none 0 0, .slice none 0 0, .slice none 0 0, .slice none 0 0, .int .i64 0, .bool false, .slice none 0 0] 43)
    rw [show (w.alloc (.cells #[.slice (some ⟨g0, 0, none⟩) n0 n0, .slice (some ⟨g1, 0, none⟩) n1 n1, .slice (some ⟨g2, 0, none⟩) n2 n2, .slice (some ⟨g3, 0, none⟩) n3 n3, .slice (some ⟨g4, 0, none⟩) n4 n4] 35)).heap.size = w.heap.size + 1 from by simp] at h1
    exact h1
  clear h hs hf hwf r0 r1 r2 r3 r4 hn0 hn1 hn2 hn3 hn4 kb
  have ki := boxO_cells HI0.out
  unfold SetV
  dsimp only
  go_enter Tryz.func5, Tryz.ntmps5
  go_wp2_with fail
  refine (faultS ⟨some ⟨g0, 0, none⟩, n0, n0, some ⟨g1, 0, none⟩, n1, n1, some ⟨g2, 0, none⟩, n2, n2, some ⟨g3, 0, none⟩, n3, n3, some ⟨g4, 0, none⟩, n4, n4⟩ X f HF.out _ ((HX.out.rd).on HB0.out) HS.out HWF.out).mono ?_
  rintro e w1 ⟨rfl, hb1⟩
  have HI1 : Hid (w1.heap[w.heap.size]? = some (.cells #[.slice (some ⟨g0, 0, none⟩) n0 n0, .slice (some ⟨g1, 0, none⟩) n1 n1, .slice (some ⟨g2, 0, none⟩) n2 n2, .slice (some ⟨g3, 0, none⟩) n3 n3, .slice (some ⟨g4, 0, none⟩) n4 n4] 35)) := row_on HI0.out hb1
  have HZ1 : Hid (w1.heap[w.heap.size + 1]? = some (.cells #[.slice none 0 0, .slice none 0 0, .slice none 0 0, .slice none 0 0, .slice none 0 0, .slice none 0 0, .slice none 0 0, .slice none 0 0, .slice none 0 0, .int .i64 0, .bool false, .slice none 0 0] 43)) := row_on HZ0.out hb1
  have HB1 : Hid (Below w.heap.size w w1) := bel_on (Nat.le_refl _) HB0.out hb1
  clear hb1 HI0 HZ0 HB0 ki
  have ki := boxO_cells HI1.out
  have kz := box12_cells HZ1.out
  by_cases hf0 : f = 0
  · subst hf0
    go_upto_region 4 with fail
    refine wp_region_held_drew (S := fun w' => w'.cell? ⟨w.heap.size, 0, none⟩ = some (.slice (some ⟨g0, 0, none⟩) n0 n0) ∧ w'.cell? ⟨w.heap.size, 1, none⟩ = some (.slice (some ⟨g1, 0, none⟩) n1 n1) ∧ w'.cell? ⟨w.heap.size, 2, none⟩ = some (.slice (some ⟨g2, 0, none⟩) n2 n2) ∧ w'.cell? ⟨w.heap.size, 3, none⟩ = some (.slice (some ⟨g3, 0, none⟩) n3 n3) ∧ w'.cell? ⟨w.heap.size, 4, none⟩ = some (.slice (some ⟨g4, 0, none⟩) n4 n4) ∧ Below w.heap.size w w') (by kernel_rfl) ⟨ki.1.1, ki.1.2.1, ki.1.2.2.1, ki.1.2.2.2.1, ki.1.2.2.2.2, HB1.out.drew⟩ (fun hHeld => ?_)
    refine wpAnyH_take (i := 0) (v := ?_) rfl (by kernel_rfl) (by kernel_rfl) (by kernel_rfl) (fun _ _ _ h => h) (Or.inl ⟨by rfl, ?_⟩) (by assumption) ?_
    rotate_left
    · intro w_ hSw; (try obtain ⟨z0_, z1_, z2_, z3_, z4_, z5_⟩ := hSw); go_simp <;> with_reducible rfl
    try simp only [Act.put, List.setIfInBounds_toArray, List.set_cons_zero, List.set_cons_succ, List.getElem_toArray, List.getElem_cons_zero, List.getElem_cons_succ]
    refine any_states (σ := Bool × Bool × Fin 4) (fun s => #[true, decide (0 < s.2.2), decide (1 < s.2.2), s.1, decide (2 < s.2.2), s.2.1, false]) (fun s => (if s.2.2 = 0 then [1] else []) ++ (if s.2.2 = 1 then [2] else []) ++ (if s.1 = true then [] else [3]) ++ (if s.2.2 = 2 ∧ s.1 = true then [4] else []) ++ (if s.2.1 = true then [] else [5])) (fun s => 1 + (if s.1 then 0 else 1) + (if s.2.1 then 0 else 1) + (3 - s.2.2.val)) (fun s => !(decide (2 < s.2.2)) || s.1) (fun s => decide (s.2.2 = 3) && s.2.1) (fun s a w_ => ∃ t5 t13 t14 t15 t16 : Value, a = ⟨#[.agg #[.slice (some ⟨g0, 0, none⟩) n0 n0, .slice (some ⟨g1, 0, none⟩) n1 n1, .slice (some ⟨g2, 0, none⟩) n2 n2, .slice (some ⟨g3, 0, none⟩) n3 n3, .slice (some ⟨g4, 0, none⟩) n4 n4], .pointer (some ⟨w.heap.size, 0, none⟩), .pointer (some ⟨w.heap.size + 1, 0, none⟩), .int .i64 0, .int .i64 0, t5, .agg #[.slice (some ⟨g0, 0, none⟩) n0 n0, .slice (some ⟨g1, 0, none⟩) n1 n1, .slice (some ⟨g2, 0, none⟩) n2 n2, .slice (some ⟨g3, 0, none⟩) n3 n3, .slice (some ⟨g4, 0, none⟩) n4 n4], .int .i64 0, .int .i64 0, .bool false, undef, undef, .agg #[.slice (some ⟨g0, 0, none⟩) n0 n0, .slice (some ⟨g1, 0, none⟩) n1 n1, .slice (some ⟨g2, 0, none⟩) n2 n2, .slice (some ⟨g3, 0, none⟩) n3 n3, .slice (some ⟨g4, 0, none⟩) n4 n4], t13, t14, t15, t16, undef, undef, undef, undef, undef, undef, undef, undef, undef, undef, undef], []⟩ ∧ Below w1.heap.size w1 w_ ∧ SN w1.heap.size X s.1 s.2.1 (decide (0 < s.2.2)) (decide (1 < s.2.2)) (decide (2 < s.2.2)) t5 t13 t14 t15 t16 w_) ?_ ?_ ?_ 6 (false, false, 0) _ _ _ (by decide) (by decide) (by decide) hHeld ⟨undef, undef, undef, undef, undef, rfl, (Below.refl _ _).drew, ⟨fun h => (by cases h), fun h => (by cases h), fun h => (by cases h), fun h => (by cases h), fun h => (by cases h)⟩⟩
    · rintro ⟨x, y, c⟩
      dsimp only
      revert x y c
      decide +kernel
    · rintro ⟨x, y, c⟩ i hok hfin hi
      dsimp only at hok hfin hi
      simp only [List.mem_append, mem_ifn, mem_ifc] at hi
      rcases hi with (((hi | hi) | hi) | hi) | hi
      · obtain ⟨rfl, rfl⟩ := hi
        refine ⟨(x, y, 1), rfl, ?_, ?_, ?_⟩
        · clear hfin; revert hok; revert x y; decide +kernel
        · clear hfin; revert hok; revert x y; decide +kernel
        rintro a w_ hSw ⟨t5, t13, t14, t15, t16, rfl, hb, hn⟩
        dsimp only at hn ⊢
        refine wpOp_step (i := 1) rfl (fun K hK => ?_)
        have HK : Shut _ := hK
        clear hK
        go_simp
        go_at_call 19
        refine (l12S ⟨some ⟨g0, 0, none⟩, n0, n0, some ⟨g1, 0, none⟩, n1, n1, some ⟨g2, 0, none⟩, n2, n2, some ⟨g3, 0, none⟩, n3, n3, some ⟨g4, 0, none⟩, n4, n4⟩ X lo w_ (rwx_on (rwx_on HX.out HB1.out) hb) HS.out).mono ?_
        rintro e w2 ⟨s', rfl, ho, hb2⟩
        go_wp2_with fail
        exact HK.out _ _ ⟨⟨cell_on hSw.1 hb2, cell_on hSw.2.1 hb2, cell_on hSw.2.2.1 hb2, cell_on hSw.2.2.2.1 hb2, cell_on hSw.2.2.2.2.1 hb2, bel_on (Nat.le_refl _) hSw.2.2.2.2.2 hb2⟩, t5, _, t14, t15, t16, rfl, bel_on (Nat.le_refl _) hb hb2, ⟨fun _ => ⟨s', rfl, ho.less hb.size⟩, fun h => absurd h (by simp), (hn.on hb2).o, fun h => absurd h (by simp), (hn.on hb2).k⟩⟩
      · obtain ⟨rfl, rfl⟩ := hi
        refine ⟨(x, y, 2), rfl, ?_, ?_, ?_⟩
        · clear hfin; revert hok; revert x y; decide +kernel
        · clear hfin; revert hok; revert x y; decide +kernel
        rintro a w_ hSw ⟨t5, t13, t14, t15, t16, rfl, hb, hn⟩
        dsimp only at hn ⊢
        refine wpOp_step (i := 2) rfl (fun K hK => ?_)
        have HK : Shut _ := hK
        clear hK
        go_simp
        go_at_call 20
        refine (arS w_).mono ?_
        rintro e w2 ⟨g, rfl, hge, hr2, hb2⟩
        go_wp2_with fail
        exact HK.out _ _ ⟨⟨cell_on hSw.1 hb2, cell_on hSw.2.1 hb2, cell_on hSw.2.2.1 hb2, cell_on hSw.2.2.2.1 hb2, cell_on hSw.2.2.2.2.1 hb2, bel_on (Nat.le_refl _) hSw.2.2.2.2.2 hb2⟩, t5, t13, _, t15, t16, rfl, bel_on (Nat.le_refl _) hb hb2, ⟨fun _ => (hn.on hb2).s (by simp), fun _ => ⟨g, rfl, hr2, Nat.le_trans hb.size hge⟩, (hn.on hb2).o, fun h => absurd h (by simp), (hn.on hb2).k⟩⟩
      · obtain ⟨rfl, rfl⟩ := hi
        refine ⟨(true, y, c), rfl, ?_, ?_, ?_⟩
        · clear hfin; revert hok; revert y c; decide +kernel
        · clear hfin; revert hok; revert y c; decide +kernel
        rintro a w_ hSw ⟨t5, t13, t14, t15, t16, rfl, hb, hn⟩
        dsimp only at hn ⊢
        refine wpOp_step (i := 3) rfl (fun K hK => ?_)
        have HK : Shut _ := hK
        clear hK
        have hmk := mk8
        go_simp
        exact HK.out _ _ ⟨⟨cell_on hSw.1 (al1_k w_ _), cell_on hSw.2.1 (al1_k w_ _), cell_on hSw.2.2.1 (al1_k w_ _), cell_on hSw.2.2.2.1 (al1_k w_ _), cell_on hSw.2.2.2.2.1 (al1_k w_ _), bel_on (Nat.le_refl _) hSw.2.2.2.2.2 (al1_k w_ _)⟩, t5, t13, t14, _, t16, rfl, bel_on (Nat.le_refl _) hb (al1_k w_ _), ⟨(hn.on (al1_k w_ _)).s, (hn.on (al1_k w_ _)).a, fun _ => ⟨w_.heap.size, rfl, heap_new w_ _, hb.size⟩, (hn.on (al1_k w_ _)).b, (hn.on (al1_k w_ _)).k⟩⟩
      · obtain ⟨⟨rfl, rfl⟩, rfl⟩ := hi
        refine ⟨(true, y, 3), rfl, ?_, ?_, ?_⟩
        · clear hfin; revert hok; revert y; decide +kernel
        · clear hfin; revert hok; revert y; decide +kernel
        rintro a w_ hSw ⟨t5, t13, t14, t15, t16, rfl, hb, hn⟩
        dsimp only at hn ⊢
        refine wpOp_step (i := 4) rfl (fun K hK => ?_)
        have HK : Shut _ := hK
        clear hK
        obtain ⟨s', rfl, hx⟩ := hn.s (by simp)
        obtain ⟨gA, rfl, ha, hla⟩ := hn.a (by simp)
        obtain ⟨gO, rfl, ho, hlo⟩ := hn.o rfl
        unfold SetV
        go_simp
        exact HK.out _ _ ⟨hSw, t5, _, _, _, _, rfl, hb, ⟨fun _ => ⟨s', rfl, hx⟩, fun _ => ⟨gA, rfl, ha, hla⟩, fun _ => ⟨gO, rfl, ho, hlo⟩, fun _ => ⟨s', gA, gO, rfl, hx, ha, ho, hla, hlo⟩, hn.k⟩⟩
      · obtain ⟨rfl, rfl⟩ := hi
        refine ⟨(x, true, c), rfl, ?_, ?_, ?_⟩
        · clear hfin; revert hok; revert x c; decide +kernel
        · clear hfin; revert hok; revert x c; decide +kernel
        rintro a w_ hSw ⟨t5, t13, t14, t15, t16, rfl, hb, hn⟩
        dsimp only at hn ⊢
        refine wpOp_step (i := 5) rfl (fun K hK => ?_)
        have HK : Shut _ := hK
        clear hK
        go_simp
        exact HK.out _ _ ⟨⟨cell_on hSw.1 (al1_k w_ _), cell_on hSw.2.1 (al1_k w_ _), cell_on hSw.2.2.1 (al1_k w_ _), cell_on hSw.2.2.2.1 (al1_k w_ _), cell_on hSw.2.2.2.2.1 (al1_k w_ _), bel_on (Nat.le_refl _) hSw.2.2.2.2.2 (al1_k w_ _)⟩, _, t13, t14, t15, t16, rfl, bel_on (Nat.le_refl _) hb (al1_k w_ _), ⟨(hn.on (al1_k w_ _)).s, (hn.on (al1_k w_ _)).a, (hn.on (al1_k w_ _)).o, (hn.on (al1_k w_ _)).b, fun _ => ⟨w_.heap.size, rfl, heap_new w_ _, hb.size⟩⟩⟩
    · rintro ⟨x, y, c⟩ a w_ f2 hok hfin hf hSw ⟨t5, t13, t14, t15, t16, rfl, hb, hn⟩
      dsimp only at hok hfin hf hn ⊢
      obtain ⟨rfl, rfl⟩ : c = 3 ∧ y = true := by simpa using hfin
      obtain rfl : x = true := by clear hf hn hfin; revert hok; revert x; decide +kernel
      obtain ⟨f3, rfl⟩ : ∃ f3, f2 = f3 + 1 := ⟨f2 - 1, by simp at hf; omega⟩
      obtain ⟨s', gA, gO, rfl, hx, ha, ho, hla, hlo⟩ := hn.b (by first | rfl | simp)
      obtain ⟨b, rfl, hkr, hbl⟩ := hn.k rfl
      have hw1 := row_lt HZ1.out
      have kk := box12_cells hkr
      refine wpAnyH_ready (rs := [6]) (by kernel_rfl) (by simp) ?_
      refine AllReadyH.cons rfl (fun K hK => ?_) AllReadyH.nil
      go_simp
      have nb1 : w.heap.size ≠ b := by omega
      have HKF : Hid (((((((((((((w_.setCell ⟨b, 0, none⟩ (.slice s'.q0 s'.n0 s'.c0)).setCell ⟨b, 1, none⟩ (.slice s'.q1 s'.n1 s'.c1)).setCell ⟨b, 2, none⟩ (.slice s'.q2 s'.n2 s'.c2)).setCell ⟨b, 3, none⟩ (.slice s'.q3 s'.n3 s'.c3)).setCell ⟨b, 4, none⟩ (.slice s'.q4 s'.n4 s'.c4)).setCell ⟨b, 5, none⟩ (.slice (some ⟨gA, 0, none⟩) 64 64)).setCell ⟨b, 6, none⟩ (.slice none 0 0)).setCell ⟨b, 7, none⟩ (.slice none 0 0)).setCell ⟨b, 8, none⟩ (.slice (some ⟨gO, 0, none⟩) 8 8)).setCell ⟨b, 9, none⟩ (.int .i64 0)).setCell ⟨b, 10, none⟩ (.bool false)).setCell ⟨b, 11, none⟩ (.slice none 0 0)).heap[b]? = some (.cells #[.slice s'.q0 s'.n0 s'.c0, .slice s'.q1 s'.n1 s'.c1, .slice s'.q2 s'.n2 s'.c2, .slice s'.q3 s'.n3 s'.c3, .slice s'.q4 s'.n4 s'.c4, .slice (some ⟨gA, 0, none⟩) 64 64, .slice none 0 0, .slice none 0 0, .slice (some ⟨gO, 0, none⟩) 8 8, .int .i64 0, .bool false, .slice none 0 0] 43)) := set12_row hkr (.slice s'.q0 s'.n0 s'.c0) (.slice s'.q1 s'.n1 s'.c1) (.slice s'.q2 s'.n2 s'.c2) (.slice s'.q3 s'.n3 s'.c3) (.slice s'.q4 s'.n4 s'.c4) (.slice (some ⟨gA, 0, none⟩) 64 64) (.slice none 0 0) (.slice none 0 0) (.slice (some ⟨gO, 0, none⟩) 8 8) (.int .i64 0) (.bool false) (.slice none 0 0)
      have HIF : Hid (((((((((((((w_.setCell ⟨b, 0, none⟩ (.slice s'.q0 s'.n0 s'.c0)).setCell ⟨b, 1, none⟩ (.slice s'.q1 s'.n1 s'.c1)).setCell ⟨b, 2, none⟩ (.slice s'.q2 s'.n2 s'.c2)).setCell ⟨b, 3, none⟩ (.slice s'.q3 s'.n3 s'.c3)).setCell ⟨b, 4, none⟩ (.slice s'.q4 s'.n4 s'.c4)).setCell ⟨b, 5, none⟩ (.slice (some ⟨gA, 0, none⟩) 64 64)).setCell ⟨b, 6, none⟩ (.slice none 0 0)).setCell ⟨b, 7, none⟩ (.slice none 0 0)).setCell ⟨b, 8, none⟩ (.slice (some ⟨gO, 0, none⟩) 8 8)).setCell ⟨b, 9, none⟩ (.int .i64 0)).setCell ⟨b, 10, none⟩ (.bool false)).setCell ⟨b, 11, none⟩ (.slice none 0 0)).heap[w.heap.size]? = some (.cells #[.slice (some ⟨g0, 0, none⟩) n0 n0, .slice (some ⟨g1, 0, none⟩) n1 n1, .slice (some ⟨g2, 0, none⟩) n2 n2, .slice (some ⟨g3, 0, none⟩) n3 n3, .slice (some ⟨g4, 0, none⟩) n4 n4] 35)) := set12_far (row_on HI1.out hb) nb1 (.slice s'.q0 s'.n0 s'.c0) (.slice s'.q1 s'.n1 s'.c1) (.slice s'.q2 s'.n2 s'.c2) (.slice s'.q3 s'.n3 s'.c3) (.slice s'.q4 s'.n4 s'.c4) (.slice (some ⟨gA, 0, none⟩) 64 64) (.slice none 0 0) (.slice none 0 0) (.slice (some ⟨gO, 0, none⟩) 8 8) (.int .i64 0) (.bool false) (.slice none 0 0)
      have HZF : Hid (((((((((((((w_.setCell ⟨b, 0, none⟩ (.slice s'.q0 s'.n0 s'.c0)).setCell ⟨b, 1, none⟩ (.slice s'.q1 s'.n1 s'.c1)).setCell ⟨b, 2, none⟩ (.slice s'.q2 s'.n2 s'.c2)).setCell ⟨b, 3, none⟩ (.slice s'.q3 s'.n3 s'.c3)).setCell ⟨b, 4, none⟩ (.slice s'.q4 s'.n4 s'.c4)).setCell ⟨b, 5, none⟩ (.slice (some ⟨gA, 0, none⟩) 64 64)).setCell ⟨b, 6, none⟩ (.slice none 0 0)).setCell ⟨b, 7, none⟩ (.slice none 0 0)).setCell ⟨b, 8, none⟩ (.slice (some ⟨gO, 0, none⟩) 8 8)).setCell ⟨b, 9, none⟩ (.int .i64 0)).setCell ⟨b, 10, none⟩ (.bool false)).setCell ⟨b, 11, none⟩ (.slice none 0 0)).heap[w.heap.size + 1]? = some (.cells #[.slice none 0 0, .slice none 0 0, .slice none 0 0, .slice none 0 0, .slice none 0 0, .slice none 0 0, .slice none 0 0, .slice none 0 0, .slice none 0 0, .int .i64 0, .bool false, .slice none 0 0] 43)) := set12_far (row_on HZ1.out hb) (by omega) (.slice s'.q0 s'.n0 s'.c0) (.slice s'.q1 s'.n1 s'.c1) (.slice s'.q2 s'.n2 s'.c2) (.slice s'.q3 s'.n3 s'.c3) (.slice s'.q4 s'.n4 s'.c4) (.slice (some ⟨gA, 0, none⟩) 64 64) (.slice none 0 0) (.slice none 0 0) (.slice (some ⟨gO, 0, none⟩) 8 8) (.int .i64 0) (.bool false) (.slice none 0 0)
      have HBF : Hid (Below w.heap.size w ((((((((((((w_.setCell ⟨b, 0, none⟩ (.slice s'.q0 s'.n0 s'.c0)).setCell ⟨b, 1, none⟩ (.slice s'.q1 s'.n1 s'.c1)).setCell ⟨b, 2, none⟩ (.slice s'.q2 s'.n2 s'.c2)).setCell ⟨b, 3, none⟩ (.slice s'.q3 s'.n3 s'.c3)).setCell ⟨b, 4, none⟩ (.slice s'.q4 s'.n4 s'.c4)).setCell ⟨b, 5, none⟩ (.slice (some ⟨gA, 0, none⟩) 64 64)).setCell ⟨b, 6, none⟩ (.slice none 0 0)).setCell ⟨b, 7, none⟩ (.slice none 0 0)).setCell ⟨b, 8, none⟩ (.slice (some ⟨gO, 0, none⟩) 8 8)).setCell ⟨b, 9, none⟩ (.int .i64 0)).setCell ⟨b, 10, none⟩ (.bool false)).setCell ⟨b, 11, none⟩ (.slice none 0 0))) := set12_bel hSw.2.2.2.2.2 (show w.heap.size ≤ b by omega) (.slice s'.q0 s'.n0 s'.c0) (.slice s'.q1 s'.n1 s'.c1) (.slice s'.q2 s'.n2 s'.c2) (.slice s'.q3 s'.n3 s'.c3) (.slice s'.q4 s'.n4 s'.c4) (.slice (some ⟨gA, 0, none⟩) 64 64) (.slice none 0 0) (.slice none 0 0) (.slice (some ⟨gO, 0, none⟩) 8 8) (.int .i64 0) (.bool false) (.slice none 0 0)
      have HXF : Hid (OwnX ((((((((((((w_.setCell ⟨b, 0, none⟩ (.slice s'.q0 s'.n0 s'.c0)).setCell ⟨b, 1, none⟩ (.slice s'.q1 s'.n1 s'.c1)).setCell ⟨b, 2, none⟩ (.slice s'.q2 s'.n2 s'.c2)).setCell ⟨b, 3, none⟩ (.slice s'.q3 s'.n3 s'.c3)).setCell ⟨b, 4, none⟩ (.slice s'.q4 s'.n4 s'.c4)).setCell ⟨b, 5, none⟩ (.slice (some ⟨gA, 0, none⟩) 64 64)).setCell ⟨b, 6, none⟩ (.slice none 0 0)).setCell ⟨b, 7, none⟩ (.slice none 0 0)).setCell ⟨b, 8, none⟩ (.slice (some ⟨gO, 0, none⟩) 8 8)).setCell ⟨b, 9, none⟩ (.int .i64 0)).setCell ⟨b, 10, none⟩ (.bool false)).setCell ⟨b, 11, none⟩ (.slice none 0 0)) w1.heap.size s' X) := set12_ownX hx hkr farK (.slice s'.q0 s'.n0 s'.c0) (.slice s'.q1 s'.n1 s'.c1) (.slice s'.q2 s'.n2 s'.c2) (.slice s'.q3 s'.n3 s'.c3) (.slice s'.q4 s'.n4 s'.c4) (.slice (some ⟨gA, 0, none⟩) 64 64) (.slice none 0 0) (.slice none 0 0) (.slice (some ⟨gO, 0, none⟩) 8 8) (.int .i64 0) (.bool false) (.slice none 0 0)
      have HAF : Hid (RowAt ((((((((((((w_.setCell ⟨b, 0, none⟩ (.slice s'.q0 s'.n0 s'.c0)).setCell ⟨b, 1, none⟩ (.slice s'.q1 s'.n1 s'.c1)).setCell ⟨b, 2, none⟩ (.slice s'.q2 s'.n2 s'.c2)).setCell ⟨b, 3, none⟩ (.slice s'.q3 s'.n3 s'.c3)).setCell ⟨b, 4, none⟩ (.slice s'.q4 s'.n4 s'.c4)).setCell ⟨b, 5, none⟩ (.slice (some ⟨gA, 0, none⟩) 64 64)).setCell ⟨b, 6, none⟩ (.slice none 0 0)).setCell ⟨b, 7, none⟩ (.slice none 0 0)).setCell ⟨b, 8, none⟩ (.slice (some ⟨gO, 0, none⟩) 8 8)).setCell ⟨b, 9, none⟩ (.int .i64 0)).setCell ⟨b, 10, none⟩ (.bool false)).setCell ⟨b, 11, none⟩ (.slice none 0 0)) gA z64k) := set12_far ha (row_ne ha hkr (by intro e; cases e)) (.slice s'.q0 s'.n0 s'.c0) (.slice s'.q1 s'.n1 s'.c1) (.slice s'.q2 s'.n2 s'.c2) (.slice s'.q3 s'.n3 s'.c3) (.slice s'.q4 s'.n4 s'.c4) (.slice (some ⟨gA, 0, none⟩) 64 64) (.slice none 0 0) (.slice none 0 0) (.slice (some ⟨gO, 0, none⟩) 8 8) (.int .i64 0) (.bool false) (.slice none 0 0)
      have HOF : Hid (RowAt ((((((((((((w_.setCell ⟨b, 0, none⟩ (.slice s'.q0 s'.n0 s'.c0)).setCell ⟨b, 1, none⟩ (.slice s'.q1 s'.n1 s'.c1)).setCell ⟨b, 2, none⟩ (.slice s'.q2 s'.n2 s'.c2)).setCell ⟨b, 3, none⟩ (.slice s'.q3 s'.n3 s'.c3)).setCell ⟨b, 4, none⟩ (.slice s'.q4 s'.n4 s'.c4)).setCell ⟨b, 5, none⟩ (.slice (some ⟨gA, 0, none⟩) 64 64)).setCell ⟨b, 6, none⟩ (.slice none 0 0)).setCell ⟨b, 7, none⟩ (.slice none 0 0)).setCell ⟨b, 8, none⟩ (.slice (some ⟨gO, 0, none⟩) 8 8)).setCell ⟨b, 9, none⟩ (.int .i64 0)).setCell ⟨b, 10, none⟩ (.bool false)).setCell ⟨b, 11, none⟩ (.slice none 0 0)) gO z8k) := set12_far ho (row_ne ho hkr (by intro e; cases e)) (.slice s'.q0 s'.n0 s'.c0) (.slice s'.q1 s'.n1 s'.c1) (.slice s'.q2 s'.n2 s'.c2) (.slice s'.q3 s'.n3 s'.c3) (.slice s'.q4 s'.n4 s'.c4) (.slice (some ⟨gA, 0, none⟩) 64 64) (.slice none 0 0) (.slice none 0 0) (.slice (some ⟨gO, 0, none⟩) 8 8) (.int .i64 0) (.bool false) (.slice none 0 0)
      obtain ⟨WA, hWA⟩ : ∃ W, W = ((((((((((((w_.setCell ⟨b, 0, none⟩ (.slice s'.q0 s'.n0 s'.c0)).setCell ⟨b, 1, none⟩ (.slice s'.q1 s'.n1 s'.c1)).setCell ⟨b, 2, none⟩ (.slice s'.q2 s'.n2 s'.c2)).setCell ⟨b, 3, none⟩ (.slice s'.q3 s'.n3 s'.c3)).setCell ⟨b, 4, none⟩ (.slice s'.q4 s'.n4 s'.c4)).setCell ⟨b, 5, none⟩ (.slice (some ⟨gA, 0, none⟩) 64 64)).setCell ⟨b, 6, none⟩ (.slice none 0 0)).setCell ⟨b, 7, none⟩ (.slice none 0 0)).setCell ⟨b, 8, none⟩ (.slice (some ⟨gO, 0, none⟩) 8 8)).setCell ⟨b, 9, none⟩ (.int .i64 0)).setCell ⟨b, 10, none⟩ (.bool false)).setCell ⟨b, 11, none⟩ (.slice none 0 0)) := ⟨_, rfl⟩
      rw [← hWA] at HKF HIF HZF HBF HXF HAF HOF ⊢
      clear hWA
      have kI := boxO_cells HIF.out
      refine hK.out _ _ ⟨kI.1.1, kI.1.2.1, kI.1.2.2.1, kI.1.2.2.2.1, kI.1.2.2.2.2, HBF.out⟩ (fun hHeld2 => ?_)
      clear hK K hHeld2 kk hkr hx ha ho hn hSw hb ki kz
      refine wpAnyH_done (by kernel_rfl) ?_ _
      have hmQ := makeQ n0 k0
      have hmV := makeV n2 k2
      have hkr := row_lt HKF.out
      have kb := box12_cells HKF.out
      obtain ⟨gP, hgP⟩ : ∃ g, WA.heap.size = g := ⟨_, rfl⟩
      have hgb : b < gP := by rw [← hgP]; exact hkr
      have HK5 : Hid (((WA.setCell ⟨b, 6, none⟩ (.slice (some ⟨gP, 0, none⟩) n0 n0)).alloc (.cells (parV (List.replicate n0 zeroP)).toArray 123)).heap[b]? = some (.cells #[.slice s'.q0 s'.n0 s'.c0, .slice s'.q1 s'.n1 s'.c1, .slice s'.q2 s'.n2 s'.c2, .slice s'.q3 s'.n3 s'.c3, .slice s'.q4 s'.n4 s'.c4, .slice (some ⟨gA, 0, none⟩) 64 64, .slice (some ⟨gP, 0, none⟩) n0 n0, .slice none 0 0, .slice (some ⟨gO, 0, none⟩) 8 8, .int .i64 0, .bool false, .slice none 0 0] 43)) := row_on (set_row5 HKF.out 6 _) (al1_k _ _)
      have HP5 : Hid (((WA.setCell ⟨b, 6, none⟩ (.slice (some ⟨gP, 0, none⟩) n0 n0)).alloc (.cells (parV (List.replicate n0 zeroP)).toArray 123)).heap[gP]? = some (.cells (parV (List.replicate n0 zeroP)).toArray 123)) := (by have h1 := heap_new (WA.setCell ⟨b, 6, none⟩ (.slice (some ⟨gP, 0, none⟩) n0 n0)) (.cells (parV (List.replicate n0 zeroP)).toArray 123); rw [show (WA.setCell ⟨b, 6, none⟩ (.slice (some ⟨gP, 0, none⟩) n0 n0)).heap.size = gP from by simp [hgP]] at h1; exact h1)
      have HI5 : Hid (((WA.setCell ⟨b, 6, none⟩ (.slice (some ⟨gP, 0, none⟩) n0 n0)).alloc (.cells (parV (List.replicate n0 zeroP)).toArray 123)).heap[w.heap.size]? = some (.cells #[.slice (some ⟨g0, 0, none⟩) n0 n0, .slice (some ⟨g1, 0, none⟩) n1 n1, .slice (some ⟨g2, 0, none⟩) n2 n2, .slice (some ⟨g3, 0, none⟩) n3 n3, .slice (some ⟨g4, 0, none⟩) n4 n4] 35)) := row_on (set_far HIF.out (by omega)) (al1_k _ _)
      have HZ5 : Hid (((WA.setCell ⟨b, 6, none⟩ (.slice (some ⟨gP, 0, none⟩) n0 n0)).alloc (.cells (parV (List.replicate n0 zeroP)).toArray 123)).heap[w.heap.size + 1]? = some (.cells #[.slice none 0 0, .slice none 0 0, .slice none 0 0, .slice none 0 0, .slice none 0 0, .slice none 0 0, .slice none 0 0, .slice none 0 0, .slice none 0 0, .int .i64 0, .bool false, .slice none 0 0] 43)) := row_on (set_far HZF.out (by omega)) (al1_k _ _)
      have HA5 : Hid (RowAt ((WA.setCell ⟨b, 6, none⟩ (.slice (some ⟨gP, 0, none⟩) n0 n0)).alloc (.cells (parV (List.replicate n0 zeroP)).toArray 123)) gA z64k) := row_on (set_far HAF.out (row_ne HAF.out HKF.out (by intro e; cases e))) (al1_k _ _)
      have HO5 : Hid (RowAt ((WA.setCell ⟨b, 6, none⟩ (.slice (some ⟨gP, 0, none⟩) n0 n0)).alloc (.cells (parV (List.replicate n0 zeroP)).toArray 123)) gO z8k) := row_on (set_far HOF.out (row_ne HOF.out HKF.out (by intro e; cases e))) (al1_k _ _)
      have HX5 : Hid (OwnX ((WA.setCell ⟨b, 6, none⟩ (.slice (some ⟨gP, 0, none⟩) n0 n0)).alloc (.cells (parV (List.replicate n0 zeroP)).toArray 123)) w1.heap.size s' X) := (own1 HXF.out HKF.out farK).bel (al1_k _ _)
      have HB5 : Hid (Below w.heap.size w ((WA.setCell ⟨b, 6, none⟩ (.slice (some ⟨gP, 0, none⟩) n0 n0)).alloc (.cells (parV (List.replicate n0 zeroP)).toArray 123))) := bel_on (Nat.le_refl _) (HBF.out.setCell (show w.heap.size ≤ b by omega) _) (al1_k _ _)
      go_upto_region 6 with fail
      try rw [hgP]
      obtain ⟨WB, hWB⟩ : ∃ W, W = ((WA.setCell ⟨b, 6, none⟩ (.slice (some ⟨gP, 0, none⟩) n0 n0)).alloc (.cells (parV (List.replicate n0 zeroP)).toArray 123)) := ⟨_, rfl⟩
      rw [← hWB] at HK5 HP5 HI5 HZ5 HA5 HO5 HX5 HB5 ⊢
      clear hWB HKF HIF HZF HBF HXF HAF HOF kb kI hgP
      have kb := box12_cells HK5.out
      have kI := boxO_cells HI5.out
      obtain ⟨gL, hgL⟩ : ∃ g, WB.heap.size = g := ⟨_, rfl⟩
      have hgc : b < gL := by rw [← hgL]; exact row_lt HK5.out
      have hgd : gP < gL := by rw [← hgL]; exact row_lt HP5.out
      have HK6 : Hid (((WB.setCell ⟨b, 7, none⟩ (.slice (some ⟨gL, 0, none⟩) n2 n2)).alloc (.cells (Array.replicate n2 (Value.slice none 0 0)) 127)).heap[b]? = some (.cells #[.slice s'.q0 s'.n0 s'.c0, .slice s'.q1 s'.n1 s'.c1, .slice s'.q2 s'.n2 s'.c2, .slice s'.q3 s'.n3 s'.c3, .slice s'.q4 s'.n4 s'.c4, .slice (some ⟨gA, 0, none⟩) 64 64, .slice (some ⟨gP, 0, none⟩) n0 n0, .slice (some ⟨gL, 0, none⟩) n2 n2, .slice (some ⟨gO, 0, none⟩) 8 8, .int .i64 0, .bool false, .slice none 0 0] 43)) := row_on (set_row5 HK5.out 7 _) (al1_k _ _)
      have HL6 : Hid (((WB.setCell ⟨b, 7, none⟩ (.slice (some ⟨gL, 0, none⟩) n2 n2)).alloc (.cells (Array.replicate n2 (Value.slice none 0 0)) 127)).heap[gL]? = some (.cells (Array.replicate n2 (Value.slice none 0 0)) 127)) := (by have h1 := heap_new (WB.setCell ⟨b, 7, none⟩ (.slice (some ⟨gL, 0, none⟩) n2 n2)) (.cells (Array.replicate n2 (Value.slice none 0 0)) 127); rw [show (WB.setCell ⟨b, 7, none⟩ (.slice (some ⟨gL, 0, none⟩) n2 n2)).heap.size = gL from by simp [hgL]] at h1; exact h1)
      have HP6 : Hid (((WB.setCell ⟨b, 7, none⟩ (.slice (some ⟨gL, 0, none⟩) n2 n2)).alloc (.cells (Array.replicate n2 (Value.slice none 0 0)) 127)).heap[gP]? = some (.cells (parV (List.replicate n0 zeroP)).toArray 123)) := row_on (set_far HP5.out (by omega)) (al1_k _ _)
      have HZ6 : Hid (((WB.setCell ⟨b, 7, none⟩ (.slice (some ⟨gL, 0, none⟩) n2 n2)).alloc (.cells (Array.replicate n2 (Value.slice none 0 0)) 127)).heap[w.heap.size + 1]? = some (.cells #[.slice none 0 0, .slice none 0 0, .slice none 0 0, .slice none 0 0, .slice none 0 0, .slice none 0 0, .slice none 0 0, .slice none 0 0, .slice none 0 0, .int .i64 0, .bool false, .slice none 0 0] 43)) := row_on (set_far HZ5.out (by omega)) (al1_k _ _)
      have HA6 : Hid (RowAt ((WB.setCell ⟨b, 7, none⟩ (.slice (some ⟨gL, 0, none⟩) n2 n2)).alloc (.cells (Array.replicate n2 (Value.slice none 0 0)) 127)) gA z64k) := row_on (set_far HA5.out (row_ne HA5.out HK5.out (by intro e; cases e))) (al1_k _ _)
      have HO6 : Hid (RowAt ((WB.setCell ⟨b, 7, none⟩ (.slice (some ⟨gL, 0, none⟩) n2 n2)).alloc (.cells (Array.replicate n2 (Value.slice none 0 0)) 127)) gO z8k) := row_on (set_far HO5.out (row_ne HO5.out HK5.out (by intro e; cases e))) (al1_k _ _)
      have HX6 : Hid (OwnX ((WB.setCell ⟨b, 7, none⟩ (.slice (some ⟨gL, 0, none⟩) n2 n2)).alloc (.cells (Array.replicate n2 (Value.slice none 0 0)) 127)) w1.heap.size s' X) := (own1 HX5.out HK5.out farK).bel (al1_k _ _)
      have HB6 : Hid (Below w.heap.size w ((WB.setCell ⟨b, 7, none⟩ (.slice (some ⟨gL, 0, none⟩) n2 n2)).alloc (.cells (Array.replicate n2 (Value.slice none 0 0)) 127))) := bel_on (Nat.le_refl _) (HB5.out.setCell (show w.heap.size ≤ b by omega) _) (al1_k _ _)
      go_upto_region 7 with fail
      try rw [hgL]
      obtain ⟨WC, hWC⟩ : ∃ W, W = ((WB.setCell ⟨b, 7, none⟩ (.slice (some ⟨gL, 0, none⟩) n2 n2)).alloc (.cells (Array.replicate n2 (Value.slice none 0 0)) 127)) := ⟨_, rfl⟩
      rw [← hWC] at HK6 HL6 HP6 HZ6 HA6 HO6 HX6 HB6 ⊢
      clear hWC HK5 HP5 HI5 HZ5 HA5 HO5 HX5 HB5 kb kI hgL
      have kb := box12_cells HK6.out
      have kz := box12_cells HZ6.out
      go_wp2
      have HQ : Hid (((((((((((((WC.setCell ⟨w.heap.size + 1, 0, none⟩ (.slice s'.q0 s'.n0 s'.c0)).setCell ⟨w.heap.size + 1, 1, none⟩ (.slice s'.q1 s'.n1 s'.c1)).setCell ⟨w.heap.size + 1, 2, none⟩ (.slice s'.q2 s'.n2 s'.c2)).setCell ⟨w.heap.size + 1, 3, none⟩ (.slice s'.q3 s'.n3 s'.c3)).setCell ⟨w.heap.size + 1, 4, none⟩ (.slice s'.q4 s'.n4 s'.c4)).setCell ⟨w.heap.size + 1, 5, none⟩ (.slice (some ⟨gA, 0, none⟩) 64 64)).setCell ⟨w.heap.size + 1, 6, none⟩ (.slice (some ⟨gP, 0, none⟩) n0 n0)).setCell ⟨w.heap.size + 1, 7, none⟩ (.slice (some ⟨gL, 0, none⟩) n2 n2)).setCell ⟨w.heap.size + 1, 8, none⟩ (.slice (some ⟨gO, 0, none⟩) 8 8)).setCell ⟨w.heap.size + 1, 9, none⟩ (.int .i64 0)).setCell ⟨w.heap.size + 1, 10, none⟩ (.bool false)).setCell ⟨w.heap.size + 1, 11, none⟩ (.slice none 0 0)).heap[w.heap.size + 1]? = some (.cells #[.slice s'.q0 s'.n0 s'.c0, .slice s'.q1 s'.n1 s'.c1, .slice s'.q2 s'.n2 s'.c2, .slice s'.q3 s'.n3 s'.c3, .slice s'.q4 s'.n4 s'.c4, .slice (some ⟨gA, 0, none⟩) 64 64, .slice (some ⟨gP, 0, none⟩) n0 n0, .slice (some ⟨gL, 0, none⟩) n2 n2, .slice (some ⟨gO, 0, none⟩) 8 8, .int .i64 0, .bool false, .slice none 0 0] 43)) := set12_row HZ6.out (.slice s'.q0 s'.n0 s'.c0) (.slice s'.q1 s'.n1 s'.c1) (.slice s'.q2 s'.n2 s'.c2) (.slice s'.q3 s'.n3 s'.c3) (.slice s'.q4 s'.n4 s'.c4) (.slice (some ⟨gA, 0, none⟩) 64 64) (.slice (some ⟨gP, 0, none⟩) n0 n0) (.slice (some ⟨gL, 0, none⟩) n2 n2) (.slice (some ⟨gO, 0, none⟩) 8 8) (.int .i64 0) (.bool false) (.slice none 0 0)
      have hne : w.heap.size + 1 < w1.heap.size := hw1
      have HBR : Hid (Born ((((((((((((WC.setCell ⟨w.heap.size + 1, 0, none⟩ (.slice s'.q0 s'.n0 s'.c0)).setCell ⟨w.heap.size + 1, 1, none⟩ (.slice s'.q1 s'.n1 s'.c1)).setCell ⟨w.heap.size + 1, 2, none⟩ (.slice s'.q2 s'.n2 s'.c2)).setCell ⟨w.heap.size + 1, 3, none⟩ (.slice s'.q3 s'.n3 s'.c3)).setCell ⟨w.heap.size + 1, 4, none⟩ (.slice s'.q4 s'.n4 s'.c4)).setCell ⟨w.heap.size + 1, 5, none⟩ (.slice (some ⟨gA, 0, none⟩) 64 64)).setCell ⟨w.heap.size + 1, 6, none⟩ (.slice (some ⟨gP, 0, none⟩) n0 n0)).setCell ⟨w.heap.size + 1, 7, none⟩ (.slice (some ⟨gL, 0, none⟩) n2 n2)).setCell ⟨w.heap.size + 1, 8, none⟩ (.slice (some ⟨gO, 0, none⟩) 8 8)).setCell ⟨w.heap.size + 1, 9, none⟩ (.int .i64 0)).setCell ⟨w.heap.size + 1, 10, none⟩ (.bool false)).setCell ⟨w.heap.size + 1, 11, none⟩ (.slice none 0 0)) w.heap.size s' X gA gP gL gO) := ⟨(set12_ownX HX6.out HZ6.out farK (.slice s'.q0 s'.n0 s'.c0) (.slice s'.q1 s'.n1 s'.c1) (.slice s'.q2 s'.n2 s'.c2) (.slice s'.q3 s'.n3 s'.c3) (.slice s'.q4 s'.n4 s'.c4) (.slice (some ⟨gA, 0, none⟩) 64 64) (.slice (some ⟨gP, 0, none⟩) n0 n0) (.slice (some ⟨gL, 0, none⟩) n2 n2) (.slice (some ⟨gO, 0, none⟩) 8 8) (.int .i64 0) (.bool false) (.slice none 0 0)).less (by omega), set12_far HA6.out (row_ne HA6.out HZ6.out (by intro e; cases e)) (.slice s'.q0 s'.n0 s'.c0) (.slice s'.q1 s'.n1 s'.c1) (.slice s'.q2 s'.n2 s'.c2) (.slice s'.q3 s'.n3 s'.c3) (.slice s'.q4 s'.n4 s'.c4) (.slice (some ⟨gA, 0, none⟩) 64 64) (.slice (some ⟨gP, 0, none⟩) n0 n0) (.slice (some ⟨gL, 0, none⟩) n2 n2) (.slice (some ⟨gO, 0, none⟩) 8 8) (.int .i64 0) (.bool false) (.slice none 0 0), by rw [HN.out.1]; exact set12_far HP6.out (by omega) (.slice s'.q0 s'.n0 s'.c0) (.slice s'.q1 s'.n1 s'.c1) (.slice s'.q2 s'.n2 s'.c2) (.slice s'.q3 s'.n3 s'.c3) (.slice s'.q4 s'.n4 s'.c4) (.slice (some ⟨gA, 0, none⟩) 64 64) (.slice (some ⟨gP, 0, none⟩) n0 n0) (.slice (some ⟨gL, 0, none⟩) n2 n2) (.slice (some ⟨gO, 0, none⟩) 8 8) (.int .i64 0) (.bool false) (.slice none 0 0), by rw [HN.out.2.2.1]; exact set12_far HL6.out (by omega) (.slice s'.q0 s'.n0 s'.c0) (.slice s'.q1 s'.n1 s'.c1) (.slice s'.q2 s'.n2 s'.c2) (.slice s'.q3 s'.n3 s'.c3) (.slice s'.q4 s'.n4 s'.c4) (.slice (some ⟨gA, 0, none⟩) 64 64) (.slice (some ⟨gP, 0, none⟩) n0 n0) (.slice (some ⟨gL, 0, none⟩) n2 n2) (.slice (some ⟨gO, 0, none⟩) 8 8) (.int .i64 0) (.bool false) (.slice none 0 0), set12_far HO6.out (row_ne HO6.out HZ6.out (by intro e; cases e)) (.slice s'.q0 s'.n0 s'.c0) (.slice s'.q1 s'.n1 s'.c1) (.slice s'.q2 s'.n2 s'.c2) (.slice s'.q3 s'.n3 s'.c3) (.slice s'.q4 s'.n4 s'.c4) (.slice (some ⟨gA, 0, none⟩) 64 64) (.slice (some ⟨gP, 0, none⟩) n0 n0) (.slice (some ⟨gL, 0, none⟩) n2 n2) (.slice (some ⟨gO, 0, none⟩) 8 8) (.int .i64 0) (.bool false) (.slice none 0 0), by omega, by omega, by omega, by omega⟩
      have HBD : Hid (Below w.heap.size w ((((((((((((WC.setCell ⟨w.heap.size + 1, 0, none⟩ (.slice s'.q0 s'.n0 s'.c0)).setCell ⟨w.heap.size + 1, 1, none⟩ (.slice s'.q1 s'.n1 s'.c1)).setCell ⟨w.heap.size + 1, 2, none⟩ (.slice s'.q2 s'.n2 s'.c2)).setCell ⟨w.heap.size + 1, 3, none⟩ (.slice s'.q3 s'.n3 s'.c3)).setCell ⟨w.heap.size + 1, 4, none⟩ (.slice s'.q4 s'.n4 s'.c4)).setCell ⟨w.heap.size + 1, 5, none⟩ (.slice (some ⟨gA, 0, none⟩) 64 64)).setCell ⟨w.heap.size + 1, 6, none⟩ (.slice (some ⟨gP, 0, none⟩) n0 n0)).setCell ⟨w.heap.size + 1, 7, none⟩ (.slice (some ⟨gL, 0, none⟩) n2 n2)).setCell ⟨w.heap.size + 1, 8, none⟩ (.slice (some ⟨gO, 0, none⟩) 8 8)).setCell ⟨w.heap.size + 1, 9, none⟩ (.int .i64 0)).setCell ⟨w.heap.size + 1, 10, none⟩ (.bool false)).setCell ⟨w.heap.size + 1, 11, none⟩ (.slice none 0 0))) := set12_bel HB6.out (show w.heap.size ≤ w.heap.size + 1 by omega) (.slice s'.q0 s'.n0 s'.c0) (.slice s'.q1 s'.n1 s'.c1) (.slice s'.q2 s'.n2 s'.c2) (.slice s'.q3 s'.n3 s'.c3) (.slice s'.q4 s'.n4 s'.c4) (.slice (some ⟨gA, 0, none⟩) 64 64) (.slice (some ⟨gP, 0, none⟩) n0 n0) (.slice (some ⟨gL, 0, none⟩) n2 n2) (.slice (some ⟨gO, 0, none⟩) 8 8) (.int .i64 0) (.bool false) (.slice none 0 0)
      obtain ⟨WD, hWD⟩ : ∃ W, W = ((((((((((((WC.setCell ⟨w.heap.size + 1, 0, none⟩ (.slice s'.q0 s'.n0 s'.c0)).setCell ⟨w.heap.size + 1, 1, none⟩ (.slice s'.q1 s'.n1 s'.c1)).setCell ⟨w.heap.size + 1, 2, none⟩ (.slice s'.q2 s'.n2 s'.c2)).setCell ⟨w.heap.size + 1, 3, none⟩ (.slice s'.q3 s'.n3 s'.c3)).setCell ⟨w.heap.size + 1, 4, none⟩ (.slice s'.q4 s'.n4 s'.c4)).setCell ⟨w.heap.size + 1, 5, none⟩ (.slice (some ⟨gA, 0, none⟩) 64 64)).setCell ⟨w.heap.size + 1, 6, none⟩ (.slice (some ⟨gP, 0, none⟩) n0 n0)).setCell ⟨w.heap.size + 1, 7, none⟩ (.slice (some ⟨gL, 0, none⟩) n2 n2)).setCell ⟨w.heap.size + 1, 8, none⟩ (.slice (some ⟨gO, 0, none⟩) 8 8)).setCell ⟨w.heap.size + 1, 9, none⟩ (.int .i64 0)).setCell ⟨w.heap.size + 1, 10, none⟩ (.bool false)).setCell ⟨w.heap.size + 1, 11, none⟩ (.slice none 0 0)) := ⟨_, rfl⟩
      rw [← hWD] at HQ HBR HBD ⊢
      clear hWD kb kz
      have kf := box12_cells HQ.out
      refine bodyPost_ret (v := .tuple #[.agg #[.slice s'.q0 s'.n0 s'.c0, .slice s'.q1 s'.n1 s'.c1, .slice s'.q2 s'.n2 s'.c2, .slice s'.q3 s'.n3 s'.c3, .slice s'.q4 s'.n4 s'.c4, .slice (some ⟨gA, 0, none⟩) 64 64, .slice (some ⟨gP, 0, none⟩) n0 n0, .slice (some ⟨gL, 0, none⟩) n2 n2, .slice (some ⟨gO, 0, none⟩) 8 8, .int .i64 0, .bool false, .slice none 0 0], .int .i64 0]) (by simp [results, Tryz.results5, go_sem, kf]) rfl ⟨bornH s' X gA gP gL gO, bornK X, ?_, HBR.out.rd, (by first | exact .inl ⟨rfl, rfl⟩ | rfl), HBD.out⟩
      rw [kerV_born s' X gA gP gL gO n0 n2 HN.out.1 HN.out.2.2.1]
  · go_wp2
    have HQ : Hid (((((((((((((w1.setCell ⟨w.heap.size + 1, 0, none⟩ (.slice none 0 0)).setCell ⟨w.heap.size + 1, 1, none⟩ (.slice none 0 0)).setCell ⟨w.heap.size + 1, 2, none⟩ (.slice none 0 0)).setCell ⟨w.heap.size + 1, 3, none⟩ (.slice none 0 0)).setCell ⟨w.heap.size + 1, 4, none⟩ (.slice none 0 0)).setCell ⟨w.heap.size + 1, 5, none⟩ (.slice none 0 0)).setCell ⟨w.heap.size + 1, 6, none⟩ (.slice none 0 0)).setCell ⟨w.heap.size + 1, 7, none⟩ (.slice none 0 0)).setCell ⟨w.heap.size + 1, 8, none⟩ (.slice none 0 0)).setCell ⟨w.heap.size + 1, 9, none⟩ (.int .i64 0)).setCell ⟨w.heap.size + 1, 10, none⟩ (.bool false)).setCell ⟨w.heap.size + 1, 11, none⟩ (.slice none 0 0)).heap[w.heap.size + 1]? = some (.cells #[.slice none 0 0, .slice none 0 0, .slice none 0 0, .slice none 0 0, .slice none 0 0, .slice none 0 0, .slice none 0 0, .slice none 0 0, .slice none 0 0, .int .i64 0, .bool false, .slice none 0 0] 43)) := set12_row HZ1.out (.slice none 0 0) (.slice none 0 0) (.slice none 0 0) (.slice none 0 0) (.slice none 0 0) (.slice none 0 0) (.slice none 0 0) (.slice none 0 0) (.slice none 0 0) (.int .i64 0) (.bool false) (.slice none 0 0)
    have HBD : Hid (Below w.heap.size w ((((((((((((w1.setCell ⟨w.heap.size + 1, 0, none⟩ (.slice none 0 0)).setCell ⟨w.heap.size + 1, 1, none⟩ (.slice none 0 0)).setCell ⟨w.heap.size + 1, 2, none⟩ (.slice none 0 0)).setCell ⟨w.heap.size + 1, 3, none⟩ (.slice none 0 0)).setCell ⟨w.heap.size + 1, 4, none⟩ (.slice none 0 0)).setCell ⟨w.heap.size + 1, 5, none⟩ (.slice none 0 0)).setCell ⟨w.heap.size + 1, 6, none⟩ (.slice none 0 0)).setCell ⟨w.heap.size + 1, 7, none⟩ (.slice none 0 0)).setCell ⟨w.heap.size + 1, 8, none⟩ (.slice none 0 0)).setCell ⟨w.heap.size + 1, 9, none⟩ (.int .i64 0)).setCell ⟨w.heap.size + 1, 10, none⟩ (.bool false)).setCell ⟨w.heap.size + 1, 11, none⟩ (.slice none 0 0))) := set12_bel HB1.out (show w.heap.size ≤ w.heap.size + 1 by omega) (.slice none 0 0) (.slice none 0 0) (.slice none 0 0) (.slice none 0 0) (.slice none 0 0) (.slice none 0 0) (.slice none 0 0) (.slice none 0 0) (.slice none 0 0) (.int .i64 0) (.bool false) (.slice none 0 0)
    obtain ⟨WD, hWD⟩ : ∃ W, W = ((((((((((((w1.setCell ⟨w.heap.size + 1, 0, none⟩ (.slice none 0 0)).setCell ⟨w.heap.size + 1, 1, none⟩ (.slice none 0 0)).setCell ⟨w.heap.size + 1, 2, none⟩ (.slice none 0 0)).setCell ⟨w.heap.size + 1, 3, none⟩ (.slice none 0 0)).setCell ⟨w.heap.size + 1, 4, none⟩ (.slice none 0 0)).setCell ⟨w.heap.size + 1, 5, none⟩ (.slice none 0 0)).setCell ⟨w.heap.size + 1, 6, none⟩ (.slice none 0 0)).setCell ⟨w.heap.size + 1, 7, none⟩ (.slice none 0 0)).setCell ⟨w.heap.size + 1, 8, none⟩ (.slice none 0 0)).setCell ⟨w.heap.size + 1, 9, none⟩ (.int .i64 0)).setCell ⟨w.heap.size + 1, 10, none⟩ (.bool false)).setCell ⟨w.heap.size + 1, 11, none⟩ (.slice none 0 0)) := ⟨_, rfl⟩
    rw [← hWD] at HQ HBD ⊢
    clear hWD ki kz
    have kf := box12_cells HQ.out
    exact bodyPost_ret (v := .tuple #[.agg #[.slice none 0 0, .slice none 0 0, .slice none 0 0, .slice none 0 0, .slice none 0 0, .slice none 0 0, .slice none 0 0, .slice none 0 0, .slice none 0 0, .int .i64 0, .bool false, .slice none 0 0], .int .i64 f]) (by simp [results, Tryz.results5, go_sem, kf]) rfl ⟨noneH, noneK, rfl, none_rd _, (by first | exact .inr ⟨hf0, rfl⟩ | rfl), HBD.out⟩
end Go.Proofs.YtphijlknefgkiaaGreatDoor
