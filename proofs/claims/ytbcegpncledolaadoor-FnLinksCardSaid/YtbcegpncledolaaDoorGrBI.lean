/-
  A text of which one byte is turned: the contract of the law's own helper.
-/
import Derived.Test.YtbcegpncledolaaDoorGrAH
import Derived.Test.YtbcegpncledolaaDoorGrAZ
import Derived.RegionTactic
import Derived.ChangeAlike
import Derived.BigRegion
namespace Go.Proofs.YtbcegpncledolaaDoor
open Go.RowKit Go.PlainAid
set_option linter.unusedVariables false
set_option linter.unusedSimpArgs false

/-- '[]byte(s)': a new row that holds the text's bytes -/
theorem bytes_run (w : World) (s : ByteArray) : ∃ (w' : World) (cap : Nat) (cs : Array Value), (convert 9 22 (.string s)).run Tryd.prog w = .ok (.slice (some ⟨w.heap.size, 0, none⟩) s.size cap) w' ∧ Below w.heap.size w w' ∧
    w'.heap[w.heap.size]? = some (.cells cs 5 (cs.size, cs.size + 1)) ∧ (∀ j (hj : j < s.size), cs[j]? = some (.int .u8 (s[j].toNat : Int))) := by
  refine ⟨_, _, bytesRow s (grownCap w s.size 0 5), run_bytes_of_string w 9 22 5 s Tryd.underlying9 Tryd.underlying22 Tryd.underlying5, ?_, ?_, ?_⟩
  · exact ((Below.refl _ _).drew).alloc (Nat.le_refl _) _
  · show (w.heap.push _)[w.heap.size]? = _
    simp
  · intro j hj
    exact bytesRow_at s _ j hj
/-- bytes of a row of which one was written, made a text -/
theorem back_run (W : World) (b i m n cap : Nat) (cs : Array Value) (fr : Nat × Nat) (T : ByteArray) (hrow : W.heap[b]? = some (.cells cs 5 fr)) (hat : ∀ (j : Nat) (hj : j < T.size), cs[j]? = some (.int .u8 (T[j].toNat : Int))) (hn : T.size = n) (hi : i < n) (hm : m < 256) (W' : World) (hW' : W' = (W.setCell ⟨b, i, none⟩ (.int .u8 (m : Int))).drew) :
    (convert 22 9 (.slice (some ⟨b, 0, none⟩) n cap)).run Tryd.prog W' = .ok (.string ⟨(T.data.toList.set i (UInt8.ofNat m)).toArray⟩) W' := by
  subst hn
  have hl : (T.data.toList.set i (UInt8.ofNat m)).length = T.size := by rw [List.length_set, ← V.size_list]
  have hrow' : W'.heap[b]? = some (.cells (cs.setIfInBounds i (.int .u8 (m : Int))) 5 fr) := by
    subst hW'
    show (W.setCell ⟨b, i, none⟩ (.int .u8 (m : Int))).heap[b]? = _
    simp only [World.setCell, Array.getElem?_modify, if_true]
    rw [hrow]; rfl
  have h := run_convert_bytes_back (P := Tryd.prog) W' 22 9 5 ⟨b, 0, none⟩ cap (T.data.toList.set i (UInt8.ofNat m)) Tryd.underlying22 Tryd.underlying5 Tryd.underlying9 ?_
  · rw [hl] at h; exact h
  intro j hj
  rw [Addr.add_lit, Nat.zero_add, cell_of_row W' b j _ 5 fr hrow']
  rw [hl] at hj
  have hcj := hat j hj
  have hjs : j < cs.size := by
    rcases Nat.lt_or_ge j cs.size with h' | h'
    · exact h'
    · rw [Array.getElem?_eq_none h'] at hcj; cases hcj
  by_cases hij : i = j
  · subst hij
    rw [Array.getElem?_setIfInBounds_self_of_lt hjs]
    simp only [List.getElem_set_self, UInt8.toNat_ofNat']
    congr 2
    omega
  · rw [Array.getElem?_setIfInBounds_ne hij, hcj]
    simp only [List.getElem_set_ne hij]
    rfl
theorem below_set (w : World) (B b i : Nat) (v : Value) (h : B ≤ b) : Below B w (w.setCell ⟨b, i, none⟩ v) :=
  ⟨rfl, rfl, rfl, by simp, fun k hk => heap_setCell_other w _ k v (fun e => by simp at e; omega)⟩
/-- a text whose one byte is another -/
def Trn (s t : ByteArray) : Prop := ∃ (l m : List UInt8) (c d : UInt8), s.data.toList = l ++ c :: m ∧ t.data.toList = l ++ d :: m ∧ c ≠ d
theorem trn_set {s : ByteArray} {i m : Nat} (hi : i < s.size) (hm : m < 256) (hne : m ≠ (s[i]'hi).toNat) : Trn s ⟨(s.data.toList.set i (UInt8.ofNat m)).toArray⟩ := by
  have hl : i < s.data.toList.length := by rw [← V.size_list]; exact hi
  refine ⟨s.data.toList.take i, s.data.toList.drop (i + 1), s[i]'hi, UInt8.ofNat m, ?_, ?_, ?_⟩
  · conv => lhs; rw [← List.take_append_drop i s.data.toList]
    rw [List.drop_eq_getElem_cons hl]
    rfl
  · show (s.data.toList.set i (UInt8.ofNat m)).toArray.toList = _
    rw [List.set_eq_take_append_cons_drop, if_pos hl]
  · intro e
    apply hne
    rw [e, UInt8.toNat_ofNat']
    omega
set_option maxRecDepth 100000 in
set_option maxHeartbeats 4000000 in
theorem turnedL (s : ByteArray) (hs : s.size ≤ 100) (g cp : Nat) (x0 x1 : Int) (r0 : 0 ≤ x0 ∧ x0 ≤ 9999) (r1 : 0 ≤ x1 ∧ x1 ≤ 9999) (w : World) (c0 : w.cell? ⟨g, 0, none⟩ = some (.int .i64 x0)) (c1 : w.cell? ⟨g, 1, none⟩ = some (.int .i64 x1)) :
    Calls Tryd.prog 12 #[.string s, .slice (some ⟨g, 0, none⟩) 12 cp] w fun e w' => ∃ t : ByteArray, e = .returned (.string t) ∧ t.size ≤ 1000 ∧ (0 < s.size → Trn s t) ∧ Below w.heap.size w w' := by
  have hg3 : g < w.heap.size := World.block_lt_of_cell? _ _ c0
  obtain ⟨w6, cap6, cs, hcv, hb6, hrow, hat⟩ := bytes_run w s
  by_cases h0 : s.size = 0
  · have HB : Hid (Below w.heap.size w w6) := hb6
    rw [h0] at hcv
    clear hb6 hrow hat c0 c1
    go_enter Tryd.func12, Tryd.ntmps12
    go_wp2
    go_ret
    exact ⟨_, rfl, by decide, fun h => by omega, HB.out⟩
  · have d0 : w6.cell? ⟨g, 0, none⟩ = some (.int .i64 x0) := (hb6.cell (p := ⟨g, 0, none⟩) hg3).trans c0
    have d1 : w6.cell? ⟨g, 1, none⟩ = some (.int .i64 x1) := (hb6.cell (p := ⟨g, 1, none⟩) hg3).trans c1
    clear c0 c1
    obtain ⟨y, rfl⟩ := Int.eq_ofNat_of_zero_le r0.1
    obtain ⟨z, rfl⟩ := Int.eq_ofNat_of_zero_le r1.1
    obtain ⟨N, hN⟩ : ∃ N, s.size = N := ⟨_, rfl⟩
    obtain ⟨i, hi, hlt⟩ : ∃ i : Nat, (y : Int) % (N : Int) = (i : Int) ∧ i < N := ⟨y % N, rfl, Nat.mod_lt _ (by omega)⟩
    have hlt' : i < s.size := by omega
    have hce := hat i hlt'
    have HX : Hid (∀ m : Nat, m < 256 → m ≠ (s[i]'hlt').toNat → Trn s ⟨(s.data.toList.set i (UInt8.ofNat m)).toArray⟩) := fun m hm hne => trn_set hlt' hm hne
    have hc256 := (s[i]'hlt').toNat_lt
    have HS : Hid (∀ m : Nat, (⟨(s.data.toList.set i (UInt8.ofNat m)).toArray⟩ : ByteArray).size ≤ 1000) := fun m => by
      rw [V.size_list]
      simp
      show s.size ≤ 1000
      omega
    have HR : Hid (w6.heap[w.heap.size]? = some (Obj.cells cs 5 (cs.size, cs.size + 1))) := hrow
    have HA : Hid (∀ (j : Nat) (hj : j < s.size), cs[j]? = some (.int .u8 (s[j].toNat : Int))) := hat
    obtain ⟨c, hcc⟩ : ∃ c, c = (s[i]'hlt').toNat := ⟨_, rfl⟩
    rw [← hcc] at hce hc256 HX
    have f1 : w6.cell? ⟨w.heap.size, i, none⟩ = some (.int .u8 (c : Int)) := (cell_of_row w6 w.heap.size i cs 5 _ hrow).trans hce
    have hics : i < cs.size := by
      rcases Nat.lt_or_ge i cs.size with h' | h'
      · exact h'
      · rw [Array.getElem?_eq_none h'] at hce; cases hce
    have f2 : w6.frozen? ⟨w.heap.size, i, none⟩ = false := by unfold World.frozen?; rw [hrow]; simp; omega
    have hx : bits .xor .u8 (c : Int) (1 + (z : Int) % 255) = ((c ^^^ (1 + z % 255) : Nat) : Int) := u8_xor_nat c (1 + z % 255) hc256 (by omega)
    have hm : c ^^^ (1 + z % 255) < 256 := Nat.xor_lt_two_pow (n := 8) (by omega) (by omega)
    have hne : c ^^^ (1 + z % 255) ≠ c := by
      intro h
      have := congrArg (c ^^^ ·) h
      simp [← Nat.xor_assoc] at this
    generalize c ^^^ (1 + z % 255) = m at *
    clear hrow hat hce hcc
    have i0 : (0 : Int) ≤ (i : Int) := by omega
    have i1 : (i : Int) < (N : Int) := by omega
    have n0 : ((N : Int) == 0) = false := by simp; omega
    have HB6 : Hid (Below w.heap.size w w6) := hb6
    rw [hN] at hcv
    clear hb6
    go_enter Tryd.func12, Tryd.ntmps12
    go_wp2
    try rw [hi]
    go_region
    have HB7 : Hid (Below w.heap.size w (w6.setCell ⟨w.heap.size, i, none⟩ (.int .u8 (m : Int))).drew) := (HB6.out.trans (below_set w6 _ _ _ _ (Nat.le_refl _))).drew
    have hbk := back_run w6 w.heap.size i m N cap6 cs _ s HR.out HA.out hN hlt hm _ rfl
    have HTr : Hid (Trn s ⟨(s.data.toList.set i (UInt8.ofNat m)).toArray⟩) := HX.out m hm hne
    have HSz : Hid ((⟨(s.data.toList.set i (UInt8.ofNat m)).toArray⟩ : ByteArray).size ≤ 1000) := HS.out m
    generalize ByteArray.mk (s.data.toList.set i (UInt8.ofNat m)).toArray = T' at *
    generalize (w6.setCell ⟨w.heap.size, i, none⟩ (.int .u8 (m : Int))).drew = w7 at *
    clear HX HS HR HA hx hm hne d0 d1 f1 f2 hcv HB6
    go_wp2
    go_ret
    exact ⟨_, rfl, HSz.out, fun _ => HTr.out, HB7.out⟩
end Go.Proofs.YtbcegpncledolaaDoor
