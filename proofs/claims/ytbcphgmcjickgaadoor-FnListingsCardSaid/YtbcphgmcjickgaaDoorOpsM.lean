/-
  The map of names: what opsByName makes, and what is found in it.
-/
import Derived.Test.YtbcphgmcjickgaaDoorNames
import Derived.Maps.OwnSet
namespace Go.Proofs.YtbcphgmcjickgaaDoor
open Go.RowKit Go.PlainAid Go.Maps
set_option linter.unusedVariables false

theorem lawK : Keyed Tryd.prog 9 := string_keyed Tryd.underlying9
theorem zeroI (w : World) : (zeroValue 3).run Tryd.prog w = .ok (.int .i64 0) w := by kernel_rfl
/-- the first k names with their numbers -/
def mapN : Nat → DataW Unit
  | 0 => .map []
  | k + 1 => (mapN k).put (.string (nmA k).data.toList) (.lit (.int .i64 (k : Int)))
theorem mapN_map : ∀ k, IsMap (mapN k)
  | 0 => isMap_empty
  | k + 1 => (mapN_map k).put _ _
theorem key_ne {l m : List UInt8} (h : l ≠ m) : (Lit.string l) ≠ .string m := fun e => h (by cases e; rfl)
theorem mapN_has : ∀ (k : Nat) (l : List UInt8), Maps.has (mapN k) (.string l) = true ↔ ∃ r, r < k ∧ (nmA r).data.toList = l
  | 0, l => by
    constructor
    · intro h; simp [mapN, Maps.has] at h
    · rintro ⟨r, h, _⟩; omega
  | k + 1, l => by
    by_cases e : l = (nmA k).data.toList
    · subst e
      rw [mapN, has_put_same (mapN_map k) (by first | exact trivial | simp [WideAt.IsKeyLit])]
      exact ⟨fun _ => ⟨k, by omega, rfl⟩, fun _ => rfl⟩
    · rw [mapN, has_put_other (key_ne e), mapN_has k l]
      constructor
      · rintro ⟨r, h, hr⟩; exact ⟨r, by omega, hr⟩
      · rintro ⟨r, h, hr⟩
        refine ⟨r, ?_, hr⟩
        by_cases e2 : r = k
        · subst e2; exact absurd hr.symm e
        · omega
theorem mapN_at : ∀ (k : Nat), k ≤ 18 → ∀ r, r < k → ∀ z, (mapN k).atKey (.string (nmA r).data.toList) z = .lit (.int .i64 (r : Int))
  | 0, _, r, h, z => by omega
  | k + 1, hk, r, h, z => by
    by_cases e : r = k
    · subst e
      rw [mapN, atKey_put_same (mapN_map r) (by first | exact trivial | simp [WideAt.IsKeyLit])]
    · rw [mapN, atKey_put_other (key_ne (fun h2 => e (name_inj_l r (by omega) k (by omega) h2)))]
      exact mapN_at k (by omega) r (by omega) z

/-- a map of the first k names in block M -/
def OpsK (w : World) (M k : Nat) : Prop := w.ownsMap Tryd.prog 9 (plainElem Tryd.prog 3) M k (mapN k)
theorem OpsK.on {w w' : World} {M k : Nat} (h : OpsK w M k) (hb : Below w.heap.size w w') : OpsK w' M k := by
  obtain ⟨es, clock, h1, r⟩ := h
  have hlt : M < w.heap.size := by
    rcases Nat.lt_or_ge M w.heap.size with h' | h'
    · exact h'
    · rw [Array.getElem?_eq_none h'] at h1; cases h1
  exact ⟨es, clock, (hb.block M hlt).trans h1, r⟩
set_option maxRecDepth 100000 in
theorem run_make18 (w : World) : (Instr.makeMap 57 (some (.int .i64 18))).run Tryd.prog w = .ok (.map (some w.heap.size)) (w.alloc (.map #[] 0)) := by
  first | (simp [Instr.makeMap, run_underlying Tryd.underlying57, asInt, Result.andThen]; done) | kernel_rfl
theorem key_of {s : ByteArray} (h : s.size ≤ maxLen) : keyOf Tryd.prog 9 (.string s) = some (.string s.data.toList) 
    := Go.WideMaps.keyOf_string_mk Tryd.underlying9 h
theorem nm_size {r : Nat} (h : r < 18) : (nmA r).size ≤ maxLen := by
  have := (name_bytes r h).2.1
  rw [Array.length_toList] at this
  unfold maxLen
  have h2 : (nmA r).size = (nmA r).data.size := rfl
  omega

set_option maxRecDepth 100000 in
set_option maxHeartbeats 2000000 in
theorem opsI (w : World) (ht : TabN w) :
    Calls Tryd.prog 34 #[] w fun e w' => ∃ M : Nat, e = .returned (.map (some M)) ∧ w.heap.size ≤ M ∧ OpsK w' M 18 ∧ Below w.heap.size w w' := by
  have HT : Hid (TabN w) := ht
  have hmm := run_make18
  have HO0 : Hid (OpsK (w.alloc (.map #[] 0)) w.heap.size 0) := World.ownsMap_made _ _ _ _
  have HB0 : Hid (Below w.heap.size w (w.alloc (.map #[] 0))) := (Below.refl _ _).alloc (Nat.le_refl _) _
  clear ht
  go_enter Tryd.func34, Tryd.ntmps34
  go_wp2
  go_loopg [4] 18 (fun gk i wr => ∃ j : Nat, j + gk = 18 ∧ i = .int .i64 j ∧ Hid (OpsK wr w.heap.size j) ∧ Hid (Below w.heap.size w wr))
  case atStart => exact ⟨0, by omega, rfl, HO0, HB0⟩
  case round =>
    clear HO0 HB0
    obtain ⟨j, hj, rfl, HO, HW⟩ := hrel
    by_cases hlt : j < 18
    · have HTN : Hid (TabN wr) := tabN_below HT.out HW.out
      have HNM : Hid (nameOf (j : Int) = nmA j) := nameOf_in hlt
      have hkey := key_of (nm_size hlt)
      have hlt' : (j : Int) < 18 := by omega
      go_wp2_with fail
      refine (nameI (j : Int) _ HTN.out).mono ?_
      rintro e w2 ⟨rfl, rfl⟩
      rw [HNM.out]
      have hown : w2.ownsMap Tryd.prog 9 (plainElem Tryd.prog 3) w.heap.size j (mapN j) := HO.out
      go_wp2_with (first | (at_mapUpdate; refine wpList_mapUpdate_own _ rfl _ _ _ 57 rfl 9 3 lawK Tryd.underlying57 _ w.heap.size j _ rfl hown (by unfold maxLen; omega) _ _ _ rfl rfl hkey _ [] (plainElem_int Tryd.underlying3 (WalkArith.wf_i64 (by omega))) ?_) | go_in)
      intro w3 hown3 hgrow3
      have HO3 : Hid (OpsK w3 w.heap.size (j + 1)) := hown3
      have HW3 : Hid (Below w.heap.size w w3) := HW.out.grown hgrow3 HW.out.size (fun k hk => by cases hk; exact Nat.le_refl _)
      clear hown hown3 hgrow3 HO HW HTN hkey
      go_wp2
      go_roundg (gk - 1)
      case measure => omega
      case rel => exact ⟨j + 1, by omega, by go_num, HO3, HW3⟩
    · obtain rfl : j = 18 := by omega
      go_wp2
      go_ret
      exact ⟨_, rfl, Nat.le_refl _, HO.out, HW.out⟩
end Go.Proofs.YtbcphgmcjickgaaDoor
