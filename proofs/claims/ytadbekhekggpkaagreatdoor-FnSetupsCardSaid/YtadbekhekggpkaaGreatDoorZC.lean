/-
  The contracts of ShortText, the program's and the specification's.
-/
import Derived.Test.YtadbekhekggpkaaGreatDoorVarV
import Derived.Test.YtadbekhekggpkaaGreatDoorTextM
import Derived.Lib.AppendStr
namespace Go.Proofs.YtadbekhekggpkaaGreatDoor.V
open Go.RowKit Plain Go.PlainAid
set_option linter.unusedVariables false

theorem vt_size (n : Nat) : (ByteArray.mk (vt n).toArray).size ≤ n + 1 := by
  show (vt n).toArray.size ≤ n + 1
  rw [List.size_toArray]
  exact vt_len n n (Nat.le_refl _)

set_option maxRecDepth 100000 in
set_option maxHeartbeats 400000 in
theorem st14 (s : ByteArray) (hs : s.size ≤ 20000) (w : World) :
    Calls Tryz.prog 56 #[.string s] w fun e w' => e = .returned (.tuple #[.string (⟨(vt s.size).toArray⟩ ++ s), .bool true]) ∧ Below w.heap.size w w' := by
  have hsz := vt_size s.size
  go_enter Tryz.func56, Tryz.ntmps56
  go_wp2_with fail
  refine (var10 s.size (by omega) _).mono ?_
  rintro e w1 ⟨rfl, hb⟩
  go_wp2
  go_ret2
  exact ⟨rfl, hb⟩

theorem nost14 (s : ByteArray) (hs : 20000 < s.size) (w : World) :
    Calls Tryz.prog 56 #[.string s] w fun e w' => e = .returned (.tuple #[.string ⟨#[]⟩, .bool false]) ∧ Below w.heap.size w w' := by
  go_enter Tryz.func56, Tryz.ntmps56
  go_wp2
  go_ret2
  exact ⟨rfl, Below.refl _ _⟩
end Go.Proofs.YtadbekhekggpkaaGreatDoor.V

namespace Go.Proofs.YtadbekhekggpkaaGreatDoor
open Go.RowKit Go.PlainAid
set_option linter.unusedVariables false

theorem own_far12 {W : World} {B t z n k : Nat} {v : Value} {xs : List Value} {cs : Array Value} {t' : TypeId} (h : W.ownsRow B t z v n xs) (hk : W.heap[k]? = some (.cells cs t')) (ht : t ≠ t') : v.ownBlock ≠ some k := by
  intro hg
  rcases h.2 with ⟨rfl, _⟩ | ⟨a, c, cur, rfl, _, hh, _⟩
  · cases hg
  · cases hg
    rw [hh] at hk
    cases hk
    exact ht rfl
theorem own_set12 {w : World} {B t z n k i : Nat} {v x : Value} {xs : List Value} (h : w.ownsRow B t z v n xs) (hk : v.ownBlock ≠ some k) : (w.setCell ⟨k, i, none⟩ x).ownsRow B t z v n xs := by
  refine ⟨h.1, ?_⟩
  rcases h.2 with h2 | ⟨g, cap, cur, rfl, hg, hh, h3⟩
  · exact .inl h2
  · exact .inr ⟨g, cap, cur, rfl, hg, set_far hh (fun e => hk (by subst e; rfl)), h3⟩
theorem row_gr12 {w W : World} {k : Nat} {o : Obj} {e : Option Nat} (hg : w.grownBy W e) (h : w.heap[k]? = some o) (hk : e ≠ some k) : W.heap[k]? = some o := (hg.block k (row_lt h) (fun e' => hk e'.symm)).trans h
theorem own_ge12 {wr : World} {B t z n : Nat} {v : Value} {xs : List Value} (h : wr.ownsRow B t z v n xs) : ∀ k, v.ownBlock = some k → B ≤ k := by
  intro k hk
  rcases h.2 with ⟨rfl, e⟩ | ⟨g, cap, cur, rfl, hg, _⟩
  · simp [Value.ownBlock] at hk
  · simp [Value.ownBlock] at hk; omega

/-- the cells of a text -/
def txV (t : ByteArray) : List Value := V.bytesV t.data.toList
theorem txV_app (a b : ByteArray) : txV (a ++ b) = txV a ++ Lib.strCells b := by
  unfold txV V.bytesV Lib.strCells
  simp [ByteArray.data_append]
/-- a writer at block k that has written t -/
def WrX (W : World) (k : Nat) (t : ByteArray) : Prop := ∃ v, W.heap[k]? = some (.cells #[v] 45) ∧ W.ownsRow (k + 1) 5 1 v t.size (txV t)
theorem WrX.on {W W' : World} {k : Nat} {t : ByteArray} (h : WrX W k t) (hb : Below W.heap.size W W') : WrX W' k t := by
  obtain ⟨v, hk, ho⟩ := h
  exact ⟨v, row_on hk hb, own_keep ho hb (own_lt ho)⟩
theorem WrX.start {W : World} {k : Nat} (h : W.heap[k]? = some (.cells #[.slice none 0 0] 45)) : WrX W k ⟨#[]⟩ :=
  ⟨_, h, World.ownsRow_nil _ _ _ _⟩
/-- what an append and the store behind it leave -/
theorem wr_step {W W2 : World} {k : Nat} {t s : ByteArray} {v v' : Value} (hk : W.heap[k]? = some (.cells #[v] 45)) (ho : W.ownsRow (k + 1) 5 1 v t.size (txV t))
    (ho' : W2.ownsRow (k + 1) 5 1 v' (t.size + s.size) (txV t ++ Lib.strCells s)) (hg : W.grownBy W2 v.ownBlock) :
    W2.cell? ⟨k, 0, none⟩ = some v ∧ W2.frozen? ⟨k, 0, none⟩ = false ∧ WrX (W2.setCell ⟨k, 0, none⟩ v') k (t ++ s) ∧ Below k W (W2.setCell ⟨k, 0, none⟩ v') := by
  have hk2 : W2.heap[k]? = some (.cells #[v] 45) := row_gr12 hg hk (own_far12 ho hk (by decide))
  have hlt := row_lt hk
  refine ⟨by simp [World.cell?, hk2], by simp [World.frozen?, hk2], ⟨v', ?_, ?_⟩, ?_⟩
  · exact set_row5 hk2 0 v'
  · rw [ba_size, txV_app]
    exact own_set12 ho' (own_far12 ho' hk2 (by decide))
  · exact (((Below.refl k W).grown hg (by omega) (fun j hj => by have := own_ge12 ho j hj; omega))).setCell (Nat.le_refl _) _
/-- another block behind such a step -/
theorem wr_far {W W2 : World} {k b : Nat} {o : Obj} {cs : Array Value} {T : TypeId} {t : ByteArray} {v v' : Value} (hk : W.heap[k]? = some (.cells #[v] 45)) (ho : W.ownsRow (k + 1) 5 1 v t.size (txV t))
    (hg : W.grownBy W2 v.ownBlock) (hb : W.heap[b]? = some (.cells cs T)) (hT : 5 ≠ T) (hT2 : T ≠ 45) : (W2.setCell ⟨k, 0, none⟩ v').heap[b]? = some (.cells cs T) := by
  have hbk : b ≠ k := fun e => by
    subst e
    rw [hk] at hb
    cases hb
    exact hT2 rfl
  exact set_far (row_gr12 hg hb (own_far12 ho hb hT)) hbk
/-- numbers in bytes, one behind the other -/
def vsT : List Int → ByteArray
  | [] => ⟨#[]⟩
  | x :: r => vX x ++ vsT r
theorem vsT_take : ∀ {l : List Int} {j : Nat} (h : j < l.length), vsT (l.take (j + 1)) = vsT (l.take j) ++ vX l[j]
  | r :: t, 0, h => by simp [vsT, ba_nil, ba_nil']
  | r :: t, j + 1, h => by
    have := vsT_take (l := t) (j := j) (by simpa using h)
    simp only [List.take_succ_cons, vsT, List.getElem_cons_succ] at this ⊢
    rw [this]
    simp only [ba_assoc]
theorem varI (x : Int) (h0 : 0 ≤ x) (h1 : x ≤ 1000) (w : World) : Calls Tryz.prog 55 #[.int .i64 x] w fun e w' => e = .returned (.tuple #[.string (vX x), .bool true]) ∧ Below w.heap.size w w' := by
  obtain ⟨n, rfl⟩ := Int.eq_ofNat_of_zero_le h0
  exact V.var10 n (by omega) w

set_option maxRecDepth 100000 in
set_option maxHeartbeats 2000000 in
theorem numbersI (k bl : Nat) (l : List Int) (n : Nat) (t : ByteArray) (hl : l.length = n) (hn : n ≤ 5) (hx : ∀ j (h : j < l.length), 0 ≤ l[j] ∧ l[j] ≤ 1000) (ht : t.size ≤ 200000) (w : World) (hw : WrX w k t)
    (hr : w.heap[bl]? = some (.cells (intsV l).toArray 3)) :
    Calls Tryz.prog 18 #[.pointer (some ⟨k, 0, none⟩), .slice (some ⟨bl, 0, none⟩) n n] w fun e w' => e = .returned (.tuple #[]) ∧ WrX w' k (t ++ vsT l) ∧ Below k w w' := by
  obtain ⟨i0, hi, hz0, hz1, hz2⟩ := info_parts V.info5
  have HL : Hid (l.length = n) := hl
  have HX : Hid (∀ j (h : j < l.length), 0 ≤ l[j] ∧ l[j] ≤ 1000) := hx
  have HW0 : Hid (WrX w k (t ++ vsT (l.take 0))) := by rw [List.take_zero, vsT, ba_nil]; exact hw
  have HR0 : Hid (w.heap[bl]? = some (.cells (intsV l).toArray 3)) := hr
  have HB0 : Hid (Below k w w) := Below.refl _ _
  clear hl hx hw hr
  go_enter Tryz.func18, Tryz.ntmps18
  go_wp2
  go_loopg [10] n (fun gk i wr => ∃ j : Nat, j + gk = n ∧ i = .int .i64 j ∧ (vsT (l.take j)).size ≤ 1001 * j ∧ Hid (WrX wr k (t ++ vsT (l.take j))) ∧ Hid (wr.heap[bl]? = some (.cells (intsV l).toArray 3)) ∧ Hid (Below k w wr))
  case atStart => exact ⟨0, by omega, rfl, Nat.zero_le _, HW0, HR0, HB0⟩
  case round =>
    clear HW0 HR0 HB0
    obtain ⟨j, hj, rfl, hsz, HW, HR, HB⟩ := hrel
    by_cases hlt : j < n
    · have hjl : j < l.length := by have := HL.out; omega
      have hc : wr.cell? ⟨bl, j, none⟩ = some (.int .i64 l[j]) := by simp [World.cell?, HR.out, intsV, hjl]
      have hb := HX.out j hjl
      have HT : Hid (t ++ vsT (l.take (j + 1)) = (t ++ vsT (l.take j)) ++ vX l[j]) := by show _ = _; rw [vsT_take hjl, ba_assoc]
      have HT2 : Hid ((vsT (l.take (j + 1))).size = (vsT (l.take j)).size + (vX l[j]).size) := by show _ = _; rw [vsT_take hjl, ba_size]
      obtain ⟨x, hx⟩ : ∃ x, l[j] = x := ⟨_, rfl⟩
      rw [hx] at hc hb HT HT2
      obtain ⟨hb0, hb1⟩ := hb
      clear hx hjl
      have hz := vX_size hb0 hb1
      go_wp2_with fail
      refine (varI x hb0 hb1 _).mono ?_
      rintro e w1 ⟨rfl, hb⟩
      have HW1 := HW.out.on hb
      have HR1 : Hid (w1.heap[bl]? = some (.cells (intsV l).toArray 3)) := row_on HR.out hb
      have HB1 : Hid (Below k w w1) := HB.out.trans (hb.mono (by have h1 := HB.out.size; obtain ⟨v, hk, _⟩ := HW.out; exact Nat.le_of_lt (row_lt hk)))
      obtain ⟨pre, hpre⟩ : ∃ p, t ++ vsT (l.take j) = p := ⟨_, rfl⟩
      have hps : pre.size ≤ 300000 := by rw [← hpre, ba_size]; omega
      rw [hpre] at HW1 HT
      obtain ⟨v, hk, ho⟩ := HW1
      have hkc : w1.cell? ⟨k, 0, none⟩ = some v := by simp [World.cell?, hk]
      have hkl := row_lt hk
      obtain ⟨ps, hpsz⟩ : ∃ m, pre.size = m := ⟨_, rfl⟩
      have HK : Hid (w1.heap[k]? = some (.cells #[v] 45) ∧ w1.ownsRow (k + 1) 5 1 v pre.size (txV pre)) := ⟨hk, ho⟩
      clear hb HW HR HB hk hc hpre hpsz ps
      go_wp2_with (at_builtin; refine Lib.wpList_append_own_string _ rfl _ _ 22 9 rfl (k + 1) 5 i0 Tryz.underlying22 Tryz.underlying9 hi hz0 hz1 hz2 _ _ _ rfl HK.out.2 _ rfl ?c1 ?c2 ?c3 ?_)
      case c1 => unfold maxLen; omega
      case c2 => omega
      case c3 => omega
      intro v' w2 ho' hg _
      obtain ⟨q', c', hv'⟩ := own_shapeW ho'
      obtain ⟨m', hm'⟩ : ∃ m, pre.size + (vX x).size = m := ⟨_, rfl⟩
      rw [hm'] at hv'
      obtain ⟨hc2, hf2, hw2, hb2⟩ := wr_step HK.out.1 HK.out.2 ho' hg
      have HW2 : Hid (WrX (w2.setCell ⟨k, 0, none⟩ v') k (t ++ vsT (l.take (j + 1)))) := by show WrX _ _ _; rw [HT.out]; exact hw2
      have HR2 : Hid ((w2.setCell ⟨k, 0, none⟩ v').heap[bl]? = some (.cells (intsV l).toArray 3)) := wr_far (o := .cells #[] 0) HK.out.1 HK.out.2 hg HR1.out (by decide) (by decide)
      have HB2 : Hid (Below k w (w2.setCell ⟨k, 0, none⟩ v')) := HB1.out.trans hb2
      clear ho ho' hg hw2 hb2 HT HK HR1 HB1 hkc hm'
      subst hv'
      go_wp2
      go_roundg (gk - 1)
      case measure => omega
      case rel => exact ⟨j + 1, by omega, by go_num, by rw [HT2.out]; omega, HW2, HR2, HB2⟩
    · have HE : Hid (l.take j = l) := List.take_of_length_le (by have := HL.out; omega)
      rw [HE.out] at HW
      go_wp2
      go_end0
      exact ⟨rfl, HW.out, HB.out⟩

set_option maxRecDepth 100000 in
set_option maxHeartbeats 1000000 in
theorem codeI (k : Nat) (s t : ByteArray) (hs : s.size ≤ 120) (ht : t.size ≤ 200000) (w : World) (hw : WrX w k t) :
    Calls Tryz.prog 19 #[.pointer (some ⟨k, 0, none⟩), .string s] w fun e w' => e = .returned (.tuple #[]) ∧ WrX w' k (t ++ vX s.size ++ s) ∧ Below k w w' := by
  obtain ⟨i0, hi, hz0, hz1, hz2⟩ := info_parts V.info5
  have hz := vX_size (n := (s.size : Int)) (by omega) (by omega)
  have HW : Hid (WrX w k t) := hw
  have hst := V.st14 s (by omega) w
  obtain ⟨f, hf⟩ : ∃ f, vX s.size ++ s = f := ⟨_, rfl⟩
  have hfs : f.size ≤ 2000 := by rw [← hf, ba_size]; omega
  have HF : Hid (t ++ vX s.size ++ s = t ++ f) := by show _ = _; rw [← hf, ba_assoc]
  have hst2 : Calls Tryz.prog 56 #[.string s] w fun e w' => e = .returned (.tuple #[.string f, .bool true]) ∧ Below w.heap.size w w' := by rw [← hf]; exact hst
  clear hw hst hf
  go_enter Tryz.func19, Tryz.ntmps19
  go_wp2_with fail
  refine hst2.mono ?_
  rintro e w1 ⟨rfl, hb⟩
  obtain ⟨v, hk, ho⟩ := HW.out.on hb
  have HB1 : Hid (Below k w w1) := hb.mono (by obtain ⟨v, hk, _⟩ := HW.out; exact Nat.le_of_lt (row_lt hk))
  have hkc : w1.cell? ⟨k, 0, none⟩ = some v := by simp [World.cell?, hk]
  have hkl := row_lt hk
  have HK : Hid (w1.heap[k]? = some (.cells #[v] 45) ∧ w1.ownsRow (k + 1) 5 1 v t.size (txV t)) := ⟨hk, ho⟩
  clear hb HW hk hst2
  go_wp2_with (at_builtin; refine Lib.wpList_append_own_string _ rfl _ _ 22 9 rfl (k + 1) 5 i0 Tryz.underlying22 Tryz.underlying9 hi hz0 hz1 hz2 _ _ _ rfl HK.out.2 _ rfl ?c1 ?c2 ?c3 ?_)
  case c1 => unfold maxLen; omega
  case c2 => omega
  case c3 => omega
  intro v' w2 ho' hg _
  obtain ⟨q', c', hv'⟩ := own_shapeW ho'
  obtain ⟨m', hm'⟩ : ∃ m, t.size + f.size = m := ⟨_, rfl⟩
  rw [hm'] at hv'
  obtain ⟨hc2, hf2, hw2, hb2⟩ := wr_step HK.out.1 HK.out.2 ho' hg
  have HW2 : Hid (WrX (w2.setCell ⟨k, 0, none⟩ v') k (t ++ vX s.size ++ s)) := by show WrX _ _ _; rw [HF.out]; exact hw2
  have HB2 : Hid (Below k w (w2.setCell ⟨k, 0, none⟩ v')) := HB1.out.trans hb2
  clear ho ho' hg hw2 hb2 HF HK HB1 hkc hm'
  subst hv'
  go_wp2
  go_end0
  exact ⟨rfl, HW2.out, HB2.out⟩
end Go.Proofs.YtadbekhekggpkaaGreatDoor
