/-
  The walk of FnTurned.
-/
import Derived.Test.YtpmmphlfbmkjlaaDoorTurn0
import Derived.Test.YtpmmphlfbmkjlaaDoorPlaces
import Derived.RegionTactic
import Derived.ChangeAlike
import Derived.BigRegion
namespace Go.Proofs.YtpmmphlfbmkjlaaDoor
open Go.RowKit Go.PlainAid
set_option linter.unusedVariables false

theorem big5 (a : Option Addr) (len cap : Nat) (hl : len ≤ 9223372036854775807) (w : World) :
    Calls Tryd.prog 5 #[.slice a len cap] w fun e w' => e = .returned (.bool (decide (1048576 < (len : Int)))) ∧ w' = w := by
  go_enter Tryd.func5, Tryd.ntmps5
  go_wp2
  go_ret
  exact ⟨rfl, rfl⟩
theorem un_sealed (s : ByteArray) (hs : s.size ≤ 20000) (w : World) (ht : Tab w) :
    Calls Tryd.prog 19 #[.string (s ++ sigil s)] w fun e w' => e = .returned (.tuple #[.string s, .bool true]) ∧ Below w.heap.size w w' := by
  have h := un19_yes (s ++ sigil s) s.size (sealed_size s) hs (sealed_ok s) w ht
  rw [sealed_front] at h
  exact h

/-- bytes of a row of which one was written, made a text -/
theorem back_run (W : World) (b i m n cap : Nat) (cs : Array Value) (fr : Nat × Nat) (T : ByteArray) (hrow : W.heap[b]? = some (.cells cs 5 fr)) (hat : ∀ (j : Nat) (hj : j < T.size), cs[j]? = some (.int .u8 (T[j].toNat : Int))) (hn : T.size = n) (hi : i < n) (hm : m < 256) (W' : World) (hW' : W' = (W.setCell ⟨b, i, none⟩ (.int .u8 (m : Int))).drew) :
    (convert 22 9 (.slice (some ⟨b, 0, none⟩) n cap)).run Tryd.prog W' = .ok (.string ⟨(T.data.toList.set i (UInt8.ofNat m)).toArray⟩) W' := by
  subst hn
  have hl : (T.data.toList.set i (UInt8.ofNat m)).length = T.size := by rw [List.length_set, ← size_list]
  have hrow' : W'.heap[b]? = some (.cells (cs.setIfInBounds i (.int .u8 (m : Int))) 5 fr) := by
    subst hW'
    show (W.setCell ⟨b, i, none⟩ (.int .u8 (m : Int))).heap[b]? = _
    simp only [World.setCell, Array.getElem?_modify, if_true]
    rw [hrow]; rfl
  have h := run_convert_bytes_back (P := Tryd.prog) W' 22 9 5 ⟨b, 0, none⟩ cap (T.data.toList.set i (UInt8.ofNat m)) Tryd.underlying22 Tryd.underlying5 Tryd.underlying9 ?_
  · rw [hl] at h; exact h
  intro j hj
  rw [Addr.add_lit, Nat.zero_add, cell_of_row W' b j _ 5 fr hrow']
  rw [hl] at hj
  have hcj := hat j hj
  have hjs : j < cs.size := by
    rcases Nat.lt_or_ge j cs.size with h' | h'
    · exact h'
    · rw [Array.getElem?_eq_none h'] at hcj; cases hcj
  by_cases hij : i = j
  · subst hij
    rw [Array.getElem?_setIfInBounds_self_of_lt hjs]
    simp only [List.getElem_set_self, UInt8.toNat_ofNat']
    congr 2
    omega
  · rw [Array.getElem?_setIfInBounds_ne hij, hcj]
    simp only [List.getElem_set_ne hij]
    rfl

theorem below_set (w : World) (B b i : Nat) (v : Value) (h : B ≤ b) : Below B w (w.setCell ⟨b, i, none⟩ v) :=
  ⟨rfl, rfl, rfl, by simp, fun k hk => heap_setCell_other w _ k v (fun e => by simp at e; omega)⟩
theorem x_size : (ByteArray.mk #[120]).size = 1 := rfl
theorem goes_on (s : ByteArray) : crc (crc 4294967295 s.data.toList) (ByteArray.mk #[120]).data.toList = crc 4294967295 (s ++ ByteArray.mk #[120]).data.toList := by
  rw [← crc_app]; simp

/-- the sums of a text, and of it with one byte more -/
def sumS (s : ByteArray) : Nat := crc 4294967295 s.data.toList
def sumX (s : ByteArray) : Nat := crc 4294967295 (s ++ ByteArray.mk #[120]).data.toList
theorem sumS_lt (s : ByteArray) : sumS s < 4294967296 := sumof_lt s
theorem sumX_lt (s : ByteArray) : sumX s < 4294967296 := sumof_lt _
theorem sums21 (s : ByteArray) (hs : s.size < 40) (w : World) (ht : Tab w) :
    Calls Tryd.prog 21 #[.string s] w fun e w' => e = .returned (.int .u32 (sumS s : Nat)) ∧ w' = w := sum21 s (by omega) w ht
theorem x_more (s : ByteArray) (hs : s.size < 40) : (s ++ ByteArray.mk #[120]).size ≤ 1048577 := by
  have h : (s ++ ByteArray.mk #[120]).size = s.size + 1 := ByteArray.size_append
  omega
theorem sumx21 (s : ByteArray) (hs : s.size < 40) (w : World) (ht : Tab w) :
    Calls Tryd.prog 21 #[.string (s ++ ByteArray.mk #[120])] w fun e w' => e = .returned (.int .u32 (sumX s : Nat)) ∧ w' = w := by
  unfold sumX
  exact sum21 (s ++ ByteArray.mk #[120]) (x_more s hs) w ht
theorem morex20 (s : ByteArray) (w : World) (ht : Tab w) :
    Calls Tryd.prog 20 #[.int .u32 (sumS s : Nat), .string ⟨#[120]⟩] w fun e w' => e = .returned (.int .u32 (sumX s : Nat)) ∧ w' = w := by
  have h := more20 (sumS s) (sumS_lt s) ⟨#[120]⟩ (by rw [x_size]; omega) w ht
  rw [show crc (sumS s) (ByteArray.mk #[120]).data.toList = sumX s from goes_on s] at h
  exact h

set_option maxHeartbeats 1000000 in
theorem walk_in (a0 : Option Addr) (len0 cap0 : Nat) (hb : len0 ≤ 1048576) (w : World) (hcode : CodeOk w w.heap.size a0 len0) (ht : Tab w) :
    Calls Tryd.prog 4 #[.slice a0 len0 cap0] w fun e w' => e = .returned (.bool true) ∧ Below w.heap.size w w' := by
  have HT : Hid (Tab w) := ht
  have HC : Hid (CodeOk w w.heap.size a0 len0) := hcode
  clear ht hcode
  go_enter Tryd.func4, Tryd.ntmps4
  go_wp2_with fail
  refine (big5 a0 len0 cap0 (by omega) _).mono ?_
  rintro e w1 ⟨rfl, rfl⟩
  rw [decide_eq_false (by omega)]
  go_wp2_with fail
  refine (dsum16 w1.heap.size a0 len0 cap0 _ HC.out (Nat.le_refl _)).mono ?_
  rintro e w2 ⟨s, rfl, hs, hb2⟩
  have HC2 : Hid (CodeOk w2 w1.heap.size a0 len0) := code_below HC.out hb2
  have HT2 : Hid (Tab w2) := tab_below HT.out hb2
  have z2 := hb2.size
  clear HC HT
  go_wp2_with fail
  refine (places17 w1.heap.size a0 len0 cap0 _ HC2.out z2).mono ?_
  rintro e w3 ⟨g, cp, l, rfl, hl, hsm, hg, hc, hb3⟩
  have HT3 : Hid (Tab w3) := tab_below HT2.out hb3
  have z3 := hb3.size
  have c0 := hc 0 (by omega)
  have c1 := hc 1 (by omega)
  have r0 := hsm l[0] (List.getElem_mem _)
  have r1 := hsm l[1] (List.getElem_mem _)
  have hb13 : Below w1.heap.size w1 w3 := hb2.trans (hb3.mono z2)
  generalize l[0] = x0 at *
  generalize l[1] = x1 at *
  clear HC2 HT2 hc hsm hb2 hb3
  have hg3 : g < w3.heap.size := World.block_lt_of_cell? _ _ c0
  rw [hl]
  clear hl
  go_wp2_with fail
  refine (seal18 s (by omega) _ HT3.out).mono ?_
  rintro e w4 ⟨rfl, hb4⟩
  have HT4 : Hid (Tab w4) := tab_below HT3.out hb4
  clear HT3
  go_wp2_with fail
  refine (un_sealed s (by omega) _ HT4.out).mono ?_
  rintro e w5 ⟨rfl, hb5⟩
  have HT5 : Hid (Tab w5) := tab_below HT4.out hb5
  clear HT4
  have hb35 : Below w3.heap.size w3 w5 := hb4.trans (hb5.mono hb4.size)
  have z5 := hb35.size
  clear hb4 hb5
  obtain ⟨w6, cap6, cs, hcv, hb6, hrow, hat⟩ := bytes_run w5 (s ++ sigil s)
  have hTs := sealed_size s
  have HN : Hid (∀ i c, i < s.size + 4 → (s ++ sigil s).data.toList[i]? ≠ some c → okSum ⟨((s ++ sigil s).data.toList.set i c).toArray⟩ s.size = false) := fun i c => turned_no s i c
  generalize s ++ sigil s = T at *
  have d0 : w6.cell? ⟨g, 0, none⟩ = some (.int .i64 x0) := (hb6.cell (p := ⟨g, 0, none⟩) (by show g < _; omega)).trans ((hb35.cell (p := ⟨g, 0, none⟩) hg3).trans c0)
  have d1 : w6.cell? ⟨g, 1, none⟩ = some (.int .i64 x1) := (hb6.cell (p := ⟨g, 1, none⟩) (by show g < _; omega)).trans ((hb35.cell (p := ⟨g, 1, none⟩) hg3).trans c1)
  clear c0 c1
  obtain ⟨y, rfl⟩ := Int.eq_ofNat_of_zero_le r0.1
  obtain ⟨z, rfl⟩ := Int.eq_ofNat_of_zero_le r1.1
  obtain ⟨i, hi, hlt⟩ : ∃ i : Nat, (y : Int) % ((s.size : Int) + 4) = (i : Int) ∧ i < s.size + 4 := ⟨y % (s.size + 4), by rw [show (s.size : Int) + 4 = ((s.size + 4 : Nat) : Int) from rfl]; rfl, Nat.mod_lt _ (by omega)⟩
  have hce := hat i (by omega)
  have hc256 := T[i].toNat_lt
  obtain ⟨c, hcc⟩ : ∃ c, c = T[i].toNat := ⟨_, rfl⟩
  have HTi : Hid (T.data.toList[i]? = some (UInt8.ofNat c)) := by
    show _ = _
    rw [hcc]
    rw [List.getElem?_eq_getElem (by rw [← size_list]; omega)]
    simp
    rfl
  rw [← hcc] at hce hc256
  have f1 : w6.cell? ⟨w5.heap.size, i, none⟩ = some (.int .u8 (c : Int)) := (cell_of_row w6 w5.heap.size i cs 5 _ hrow).trans hce
  have hics : i < cs.size := by
    rcases Nat.lt_or_ge i cs.size with h' | h'
    · exact h'
    · rw [Array.getElem?_eq_none h'] at hce; cases hce
  have f2 : w6.frozen? ⟨w5.heap.size, i, none⟩ = false := by unfold World.frozen?; rw [hrow]; simp; omega
  have hz : z % 255 + 1 < 256 := by omega
  have hx : bits .xor .u8 (c : Int) (1 + (z : Int) % 255) = ((c ^^^ (1 + z % 255) : Nat) : Int) := u8_xor_nat c (1 + z % 255) hc256 (by omega)
  have hm : c ^^^ (1 + z % 255) < 256 := Nat.xor_lt_two_pow (n := 8) (by omega) (by omega)
  have hne : c ^^^ (1 + z % 255) ≠ c := by
    intro h
    have := congrArg (c ^^^ ·) h
    simp [← Nat.xor_assoc] at this
  generalize c ^^^ (1 + z % 255) = m at *
  have HR : Hid (w6.heap[w5.heap.size]? = some (Obj.cells cs 5 (cs.size, cs.size + 1))) := hrow
  have HA : Hid (∀ (j : Nat) (hj : j < T.size), cs[j]? = some (.int .u8 (T[j].toNat : Int))) := hat
  clear hrow hat hce hcc
  have i0 : (0 : Int) ≤ (i : Int) := by omega
  have i1 : (i : Int) < (s.size : Int) + 4 := by omega
  go_wp2
  rw [hi]
  go_region
  have HB7 : Hid (Below w1.heap.size w1 (w6.setCell ⟨w5.heap.size, i, none⟩ (.int .u8 (m : Int))).drew) := by
    have h6 : Below w1.heap.size w1 w6 := (hb13.trans (hb35.mono (by omega))).trans (hb6.mono (by omega))
    exact (h6.trans (below_set w6 _ _ _ _ (by omega))).drew
  have HT7 : Hid (Tab (w6.setCell ⟨w5.heap.size, i, none⟩ (.int .u8 (m : Int))).drew) := by
    have h6 : Tab w6 := tab_below HT5.out hb6
    have h7 := below_set w6 w5.heap.size w5.heap.size i (.int .u8 (m : Int)) (Nat.le_refl _)
    exact tab_heap (tab_below HT5.out (hb6.trans h7)) rfl
  have hbk := back_run w6 w5.heap.size i m (s.size + 4) cap6 cs _ T HR.out HA.out hTs hlt hm _ rfl
  have hno := HN.out i (UInt8.ofNat m) hlt (by
    rw [HTi.out]
    intro e
    have := congrArg UInt8.toNat (Option.some.inj e)
    simp only [UInt8.toNat_ofNat'] at this
    omega)
  have hsz : (ByteArray.mk (T.data.toList.set i (UInt8.ofNat m)).toArray).size = s.size + 4 := by rw [size_list]; simp; exact hTs
  generalize ByteArray.mk (T.data.toList.set i (UInt8.ofNat m)).toArray = T' at *
  generalize (w6.setCell ⟨w5.heap.size, i, none⟩ (.int .u8 (m : Int))).drew = w7 at *
  have HO : Hid (okSum T' s.size = false) := hno
  clear hno HN HR HA HTi hx hm hne hb6 hb35 hb13 d0 d1 f1 f2 hcv
  go_wp2_with fail
  refine (un19_no T' s.size hsz (by omega) HO.out _ HT7.out).mono ?_
  rintro e w8 ⟨rfl, hb8⟩
  have HT8 : Hid (Tab w8) := tab_below HT7.out hb8
  have HB8 : Hid (Below w1.heap.size w1 w8) := HB7.out.trans (hb8.mono HB7.out.size)
  clear HT7 HB7 hb8 hbk
  have q1 := sumS_lt s
  have q2 := sumX_lt s
  go_wp2_with fail
  refine (sums21 s hs _ HT8.out).mono ?_
  rintro e w9 ⟨rfl, rfl⟩
  go_wp2_with fail
  refine (morex20 s _ HT8.out).mono ?_
  rintro e w10 ⟨rfl, rfl⟩
  go_wp2_with fail
  refine (sumx21 s hs _ HT8.out).mono ?_
  rintro e w11 ⟨rfl, rfl⟩
  go_wp2
  go_ret
  exact ⟨rfl, HB8.out⟩
end Go.Proofs.YtpmmphlfbmkjlaaDoor
