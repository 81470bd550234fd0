/-
  Lists of messages that a call owns; the laws' own helpers over them: marking, asking, comparing.
-/
import Derived.Test.YtphijlknefgkiaaGreatDoorMsgP
namespace Go.Proofs.YtphijlknefgkiaaGreatDoor.P
open Go.RowKit Go.PlainAid
set_option linter.unusedVariables false

/-- a list of messages that is owned from block B on -/
def OwnW (w : World) (B : Nat) (v : Value) (rl : List (Int × Int)) : Prop := w.ownsRow B 159 2 v rl.length (regsV rl)
theorem OwnW.rd {w : World} {B : Nat} {v : Value} {rl : List (Int × Int)} (h : OwnW w B v rl) : ∃ a cap, v = .slice a rl.length cap ∧ RdR w a rl := by
  obtain ⟨a, cap, hv, _, _, hr⟩ := own_rdR h
  exact ⟨a, cap, hv, hr⟩
theorem OwnW.on {w w' : World} {B : Nat} {v : Value} {rl : List (Int × Int)} (h : OwnW w B v rl) (hb : Below w.heap.size w w') : OwnW w' B v rl := own_keep h hb (own_lt h)
theorem OwnW.keep {w w' : World} {B C : Nat} {v : Value} {rl : List (Int × Int)} (h : OwnW w B v rl) (hb : Below C w w') (hC : ∀ g, v.ownBlock = some g → g < C) : OwnW w' B v rl := own_keep h hb hC
theorem OwnW.mono {w : World} {B C : Nat} {v : Value} {rl : List (Int × Int)} (h : OwnW w B v rl) (hC : C ≤ B) : OwnW w C v rl := own_mono h hC
theorem ownW_nil (w : World) (B : Nat) : OwnW w B (.slice none 0 0) [] := World.ownsRow_nil _ _ _ _
theorem ownW_empty (w : World) : OwnW (w.alloc (.cells #[] 159)) w.heap.size (.slice (some ⟨w.heap.size, 0, none⟩) 0 0) [] := own_emptyR w w.heap.size (Nat.le_refl _)
theorem RdR.on {w w' : World} {a : Option Addr} {rl : List (Int × Int)} (h : RdR w a rl) (hb : Below w.heap.size w w') : RdR w' a rl := h.keep hb (Nat.le_refl _)

set_option maxRecDepth 100000 in
set_option maxHeartbeats 1000000 in
theorem eqIn (a b : Option Addr) (rl : List (Int × Int)) (n ca cb : Nat) (hl : rl.length = n) (hn : n ≤ 1048576) (w : World) (ha : RdR w a rl) (hb : RdR w b rl) :
    Calls Tryz.prog 100 #[.slice a n ca, .slice b n cb] w fun e w' => e = .returned (.bool true) ∧ Below w.heap.size w w' := by
  have HL : Hid (rl.length = n) := hl
  clear hl
  by_cases hp : 0 < n
  · obtain ⟨ga, oa, rfl, hca⟩ := ha (by have := HL.out; omega)
    obtain ⟨gb, ob, rfl, hcb⟩ := hb (by have := HL.out; omega)
    have HA : Hid (∀ j (h : j < rl.length), w.cell? ⟨ga, oa + j * 2, none⟩ = some (.int .i64 rl[j].1) ∧ w.cell? ⟨ga, oa + j * 2 + 1, none⟩ = some (.int .i64 rl[j].2)) := hca
    have HB : Hid (∀ j (h : j < rl.length), w.cell? ⟨gb, ob + j * 2, none⟩ = some (.int .i64 rl[j].1) ∧ w.cell? ⟨gb, ob + j * 2 + 1, none⟩ = some (.int .i64 rl[j].2)) := hcb
    have la : ga < w.heap.size := World.block_lt_of_cell? w ⟨ga, oa + 0 * 2, none⟩ (hca 0 (by have := HL.out; omega)).1
    have lb : gb < w.heap.size := World.block_lt_of_cell? w ⟨gb, ob + 0 * 2, none⟩ (hcb 0 (by have := HL.out; omega)).1
    clear ha hb hca hcb
    go_enter Tryz.func100, Tryz.ntmps100
    go_wp2
    go_loopg [5] n (fun gk i wr => ∃ j : Nat, j + gk = n ∧ i = .int .i64 j ∧ Hid (Below w.heap.size w wr))
    case atStart => exact ⟨0, by omega, rfl, Below.refl _ _⟩
    case round =>
      obtain ⟨j, hj, rfl, HW⟩ := hrel
      by_cases hlt : j < n
      · have hjl : j < rl.length := by have := HL.out; omega
        have c0 := HA.out j hjl
        have d0 := HB.out j hjl
        have c1 := (HW.out.cell (p := ⟨ga, oa + j * 2, none⟩) la).trans c0.1
        have c2 := (HW.out.cell (p := ⟨ga, oa + j * 2 + 1, none⟩) la).trans c0.2
        have d1 := (HW.out.cell (p := ⟨gb, ob + j * 2, none⟩) lb).trans d0.1
        have d2 := (HW.out.cell (p := ⟨gb, ob + j * 2 + 1, none⟩) lb).trans d0.2
        clear c0 d0
        generalize rl[j].1 = f at *
        generalize rl[j].2 = s at *
        have i0 : (0 : Int) ≤ (j : Int) := by omega
        have i1 : (j : Int) < (n : Int) := by omega
        have HC : Hid (wr.cell? ⟨ga, oa + j * 2, none⟩ = some (.int .i64 f) ∧ wr.cell? ⟨ga, oa + j * 2 + 1, none⟩ = some (.int .i64 s) ∧ wr.cell? ⟨gb, ob + j * 2, none⟩ = some (.int .i64 f) ∧ wr.cell? ⟨gb, ob + j * 2 + 1, none⟩ = some (.int .i64 s) ∧ Below w.heap.size w wr) := ⟨c1, c2, d1, d2, HW.out⟩
        clear c1 c2 d1 d2 hjl
        go_wp2
        go_region_held3 (fun w' => w'.cell? ⟨ga, oa + j * 2, none⟩ = some (.int .i64 f) ∧ w'.cell? ⟨ga, oa + j * 2 + 1, none⟩ = some (.int .i64 s) ∧ w'.cell? ⟨gb, ob + j * 2, none⟩ = some (.int .i64 f) ∧ w'.cell? ⟨gb, ob + j * 2 + 1, none⟩ = some (.int .i64 s) ∧ Below w.heap.size w w') (first | (refine pair_keep (by assumption) ?_; assumption) | (exact ⟨HC.out.1, HC.out.2.1, HC.out.2.2.1, HC.out.2.2.2.1, HC.out.2.2.2.2.drew⟩)) (first | (go_at_call 113; refine (eqR f s _).mono ?_; rintro e w2 ⟨rfl, hb2⟩))
        rename_i HH
        have HW2 : Hid (Below w.heap.size w w2) := HH.2.2.2.2
        clear HH hb2 HC HW
        go_wp2
        go_roundg (gk - 1)
        case measure => omega
        case rel => exact ⟨j + 1, by omega, by go_num, HW2⟩
      · go_wp2
        go_ret
        exact ⟨rfl, HW.out⟩
  · obtain rfl : n = 0 := by omega
    clear ha hb
    go_enter Tryz.func100, Tryz.ntmps100
    go_wp2
    go_rounds 1
    go_ret
    exact ⟨rfl, Below.refl _ _⟩

/-- n marks from k on, two each -/
def marksP (k : Nat) : Nat → List (Int × Int)
  | 0 => []
  | n + 1 => ((k : Int), (k : Int) + 1) :: marksP (k + 2) n
theorem marksP_len : ∀ (n k : Nat), (marksP k n).length = n
  | 0, _ => rfl
  | n + 1, k => by simp [marksP, marksP_len n]
theorem marksP_snoc : ∀ (j k : Nat), marksP k (j + 1) = marksP k j ++ [(((k : Int) + 2 * (j : Int)), ((k : Int) + 2 * (j : Int)) + 1)]
  | 0, k => by simp [marksP]
  | j + 1, k => by
    rw [marksP, marksP_snoc j (k + 2), marksP, List.cons_append, show ((k + 2 : Nat) : Int) + 2 * (j : Int) = (k : Int) + 2 * ((j + 1 : Nat) : Int) by omega]
theorem marksP_at : ∀ (n k j : Nat) (h : j < (marksP k n).length), (marksP k n)[j] = (((k : Int) + 2 * (j : Int)), ((k : Int) + 2 * (j : Int)) + 1)
  | 0, k, j, h => by simp [marksP] at h
  | n + 1, k, 0, h => by simp [marksP]
  | n + 1, k, j + 1, h => by
    have h' : j < (marksP (k + 2) n).length := by simpa [marksP] using h
    have := marksP_at n (k + 2) j h'
    simp only [marksP, List.getElem_cons_succ]
    rw [this, show ((k + 2 : Nat) : Int) + 2 * (j : Int) = (k : Int) + 2 * ((j + 1 : Nat) : Int) by omega]
def mixedP (l : List (Int × Int)) (k j : Nat) : List (Int × Int) := marksP k j ++ l.drop j
theorem mixedP_len {l : List (Int × Int)} {k j : Nat} (h : j ≤ l.length) : (mixedP l k j).length = l.length := by
  unfold mixedP; rw [List.length_append, marksP_len, List.length_drop]; omega
theorem mixedP_set {l : List (Int × Int)} {k j : Nat} (h : j < l.length) : (mixedP l k j).set j (((k : Int) + 2 * (j : Int)), ((k : Int) + 2 * (j : Int)) + 1) = mixedP l k (j + 1) := by
  unfold mixedP
  rw [List.set_append_right _ _ (by rw [marksP_len]; omega), marksP_len, Nat.sub_self, List.drop_eq_getElem_cons h, List.set_cons_zero, marksP_snoc]
  simp
theorem mixedP_all (l : List (Int × Int)) (k : Nat) : mixedP l k l.length = marksP k l.length := by unfold mixedP; simp

set_option maxRecDepth 100000 in
set_option maxHeartbeats 1000000 in
theorem markIn (l : List (Int × Int)) (v : Value) (B n k : Nat) (K : Int) (hK : K = k) (hl : l.length = n) (hn : n ≤ 1048576) (hk : k ≤ 1000000) (w : World) (hown : OwnW w B v l) (hB : B ≤ w.heap.size) :
    Calls Tryz.prog 80 #[v, .int .i64 K] w fun e w' => e = .returned (.int .i64 (K + 2 * n)) ∧ OwnW w' B v (marksP k n) ∧ Below B w w' := by
  subst hK
  by_cases hp : 0 < n
  · obtain ⟨g, cap, rfl, hg⟩ : ∃ g cap, v = .slice (some ⟨g, 0, none⟩) n cap ∧ B ≤ g := by
      rcases hown.2 with ⟨rfl, e⟩ | ⟨g, cap, cur, rfl, hg, _⟩
      · omega
      · exact ⟨g, cap, by rw [hl], hg⟩
    have HL : Hid (l.length = n) := hl
    have HO0 : Hid (w.ownsRow B 159 2 (.slice (some ⟨g, 0, none⟩) n cap) n (regsV l)) := by have h := hown; unfold OwnW at h; rw [hl] at h; exact h
    clear hown hl
    go_enter Tryz.func80, Tryz.ntmps80
    go_wp2
    go_loopg [1, 5] n (fun gk kv i wr => ∃ j : Nat, j + gk = n ∧ kv = .int .i64 ((k : Int) + 2 * (j : Int)) ∧ i = .int .i64 j ∧ Hid (wr.ownsRow B 159 2 (.slice (some ⟨g, 0, none⟩) n cap) n (regsV (mixedP l k j))) ∧ Hid (Below B w wr))
    case atStart => exact ⟨0, by omega, by simp, rfl, HO0, Below.refl _ _⟩
    case round =>
      clear HO0
      obtain ⟨j, hj, rfl, rfl, HO, HW⟩ := hrel
      by_cases hlt : j < n
      · have hjl : j < l.length := by have := HL.out; omega
        have hm : (mixedP l k j).length = n := by rw [mixedP_len (by omega)]; exact HL.out
        have hat := regsV_at (mixedP l k j) j (by omega)
        have c1 := HO.out.cellAt (j * 2) (by omega)
        rw [hat.1] at c1
        have d1 := HO.out.frozenAt (j * 2)
        have h1 := (HO.out.stored (j * 2) (.int .i64 ((k : Int) + 2 * (j : Int)))).1
        have c2 := h1.cellAt (j * 2 + 1) (by omega)
        rw [List.getElem?_set_ne (by omega), hat.2] at c2
        have d2 := h1.frozenAt (j * 2 + 1)
        have HS : Hid (((wr.setCell ⟨g, j * 2, none⟩ (.int .i64 ((k : Int) + 2 * (j : Int)))).setCell ⟨g, j * 2 + 1, none⟩ (.int .i64 (((k : Int) + 2 * (j : Int)) + 1))).ownsRow B 159 2 (.slice (some ⟨g, 0, none⟩) n cap) n (regsV (mixedP l k (j + 1)))) := by
          have h2 := (h1.stored (j * 2 + 1) (.int .i64 (((k : Int) + 2 * (j : Int)) + 1))).1
          rw [regsV_set, mixedP_set hjl] at h2
          exact h2
        have HW' : Hid (Below B w ((wr.setCell ⟨g, j * 2, none⟩ (.int .i64 ((k : Int) + 2 * (j : Int)))).setCell ⟨g, j * 2 + 1, none⟩ (.int .i64 (((k : Int) + 2 * (j : Int)) + 1)))) := (HW.out.setCell hg _).setCell hg _
        generalize (mixedP l k j)[j].1 = x at *
        generalize (mixedP l k j)[j].2 = y at *
        clear hat h1 hm HO HW hjl
        go_wp2
        go_roundg (gk - 1)
        case measure => omega
        case rel => exact ⟨j + 1, by omega, by go_num, by go_num, HS, HW'⟩
      · obtain rfl : j = n := by omega
        have HO' : Hid (OwnW wr B (.slice (some ⟨g, 0, none⟩) j cap) (marksP k j)) := by
          have h := HO.out
          have e := mixedP_all l k
          rw [HL.out] at e
          rw [e] at h
          unfold OwnW
          rw [marksP_len]
          exact h
        clear HO
        go_wp2
        go_ret
        exact ⟨by go_num, HO'.out, HW.out⟩
  · obtain rfl : n = 0 := by omega
    obtain rfl : l = [] := List.length_eq_zero_iff.1 hl
    obtain ⟨a, cap, rfl, _⟩ := hown.rd
    have HO : Hid (OwnW w B (.slice a 0 cap) []) := hown
    clear hown
    go_enter Tryz.func80, Tryz.ntmps80
    go_wp2
    go_rounds 1
    go_ret
    exact ⟨by simp, HO.out, Below.refl _ _⟩

set_option maxRecDepth 100000 in
set_option maxHeartbeats 1000000 in
theorem heldIn (a : Option Addr) (n k cap : Nat) (K : Int) (hK : K = k) (hn : n ≤ 1048576) (hk : k ≤ 1000000) (w : World) (hr : RdR w a (marksP k n)) :
    Calls Tryz.prog 86 #[.slice a n cap, .int .i64 K] w fun e w' => e = .returned (.int .i64 (K + 2 * n)) ∧ w' = w := by
  subst hK
  by_cases hp : 0 < n
  · obtain ⟨g, off, rfl, hc⟩ := hr (by rw [marksP_len]; exact hp)
    have HC : Hid (∀ j (h : j < (marksP k n).length), w.cell? ⟨g, off + j * 2, none⟩ = some (.int .i64 (marksP k n)[j].1) ∧ w.cell? ⟨g, off + j * 2 + 1, none⟩ = some (.int .i64 (marksP k n)[j].2)) := hc
    clear hr hc
    go_enter Tryz.func86, Tryz.ntmps86
    go_wp2
    go_loopg [1, 5] n (fun gk kv i wr => ∃ j : Nat, j + gk = n ∧ kv = .int .i64 ((k : Int) + 2 * (j : Int)) ∧ i = .int .i64 j ∧ wr = w)
    case atStart => exact ⟨0, by omega, by simp, rfl, rfl⟩
    case round =>
      obtain ⟨j, hj, rfl, rfl, rfl⟩ := hrel
      by_cases hlt : j < n
      · have hjl : j < (marksP k n).length := by rw [marksP_len]; exact hlt
        have c0 := HC.out j hjl
        rw [marksP_at] at c0
        obtain ⟨c1, c2⟩ := c0
        clear hjl
        go_wp2
        go_roundg (gk - 1)
        case measure => omega
        case rel => exact ⟨j + 1, by omega, by go_num, by go_num, rfl⟩
      · obtain rfl : j = n := by omega
        go_wp2
        go_ret
        exact ⟨by go_num, rfl⟩
  · obtain rfl : n = 0 := by omega
    clear hr
    go_enter Tryz.func86, Tryz.ntmps86
    go_wp2
    go_rounds 1
    go_ret
    exact ⟨by simp, rfl⟩
end Go.Proofs.YtphijlknefgkiaaGreatDoor.P
