/-
  What is felt, in a namespace of its own: SenseOk, SenseNames of both sides, ReadSense.
-/
import Derived.Test.YtckeffccoghgeaaDoorBase
import Derived.Test.YtckeffccoghgeaaDoorShelf
import Derived.Laws.DeepStrings4
import Derived.Laws.Rows
import Derived.Laws.IdiomStrings
namespace Go.Proofs.YtckeffccoghgeaaDoor.J
open Go.RowKit Go.PlainAid
set_option linter.unusedVariables false

theorem holdsI (l m n : Int) (b : Bool) (hb : decide (l ≤ n ∧ n ≤ m) = b) (w : World) : Calls Tryd.prog 51 #[.agg #[.int .i64 l, .int .i64 m], .int .i64 n] w fun e w' => e = .returned (.bool b) ∧ Below w.heap.size w w' := by
  go_enter Tryd.func51, Tryd.ntmps51
  by_cases h1 : l ≤ n
  · by_cases h2 : n ≤ m
    · go_wp2
      go_ret
      exact ⟨by rw [← hb, decide_eq_true ⟨h1, h2⟩]; rfl, (Below.refl _ _).alloc (Nat.le_refl _) _⟩
    · go_wp2
      go_ret
      exact ⟨by rw [← hb, decide_eq_false (fun h => by omega)]; rfl, (Below.refl _ _).alloc (Nat.le_refl _) _⟩
  · go_wp2
    go_ret
    exact ⟨by rw [← hb, decide_eq_false (fun h => by omega)]; rfl, (Below.refl _ _).alloc (Nat.le_refl _) _⟩

theorem inS (l m n : Int) (b : Bool) (hb : decide (l ≤ n ∧ n ≤ m) = b) (w : World) : Calls Tryd.prog 31 #[.int .i64 n, .int .i64 l, .int .i64 m] w fun e w' => e = .returned (.bool b) ∧ w' = w := by
  go_enter Tryd.func31, Tryd.ntmps31
  by_cases h1 : l ≤ n
  · by_cases h2 : n ≤ m
    · go_wp2
      go_ret
      exact ⟨by rw [← hb, decide_eq_true ⟨h1, h2⟩]; rfl, rfl⟩
    · go_wp2
      go_ret
      exact ⟨by rw [← hb, decide_eq_false (fun h => by omega)]; rfl, rfl⟩
  · go_wp2
    go_ret
    exact ⟨by rw [← hb, decide_eq_false (fun h => by omega)]; rfl, rfl⟩

theorem bel_on {w W W' : World} {B : Nat} (hB : B ≤ w.heap.size) (h : Below B w W) (hb : Below W.heap.size W W') : Below B w W' := h.trans (hb.mono (Nat.le_trans hB h.size))
theorem senseS (n : Int) (b : Bool) (hb : decide (0 ≤ n ∧ n ≤ 15) = b) (w : World) : Calls Tryd.prog 33 #[.int .i64 n] w fun e w' => e = .returned (.bool b) ∧ w' = w := by
  go_enter Tryd.func33, Tryd.ntmps33
  go_wp2_with fail
  refine (inS 0 15 n b hb _).mono ?_
  rintro e w1 ⟨rfl, rfl⟩
  go_wp2
  go_ret
  exact ⟨rfl, rfl⟩

theorem senseI (n : Int) (b : Bool) (hb : decide (0 ≤ n ∧ n ≤ 15) = b) (w : World) : Calls Tryd.prog 44 #[.int .i64 n] w fun e w' => e = .returned (.bool b) ∧ Below w.heap.size w w' := by
  go_enter Tryd.func44, Tryd.ntmps44
  go_wp2_with fail
  refine (holdsI 0 15 n b hb _).mono ?_
  rintro e w1 ⟨rfl, hb1⟩
  go_wp2
  go_ret
  exact ⟨rfl, hb1⟩

def bitB (a b : Int) : Bool := !(IntKind.u8.wrap ((BitVec.ofInt 8 a &&& BitVec.ofInt 8 b).toNat : Int) == 0)
def oneB (a : Int) : Bool := !(a == 0) && (IntKind.u8.wrap ((BitVec.ofInt 8 a &&& BitVec.ofInt 8 (IntKind.u8.wrap (a - 1))).toNat : Int) == 0)
theorem bitI (a b : Int) (w : World) : Calls Tryd.prog 63 #[.int .u8 a, .int .u8 b] w fun e w' => e = .returned (.bool (bitB a b)) ∧ w' = w := by
  go_enter Tryd.func63, Tryd.ntmps63
  go_wp2
  go_ret
  exact ⟨rfl, rfl⟩
def hasB (n o : Int) : Bool := decide (0 ≤ n ∧ n ≤ 15) && (decide (o = 1 ∨ o = 2 ∨ o = 4 ∨ o = 8) && decide (n / o % 2 = 1))
theorem has_fin : ∀ i j : Fin 16, hasB (i.val : Int) (j.val : Int) = (oneB (j.val : Int) && bitB (i.val : Int) (j.val : Int)) := by decide +kernel
theorem has_eq (n o : Int) (hn : 0 ≤ n ∧ n ≤ 15) (ho : 0 ≤ o ∧ o ≤ 15) : hasB n o = (oneB o && bitB n o) := by
  have h := has_fin ⟨n.toNat, by omega⟩ ⟨o.toNat, by omega⟩
  have e1 : ((n.toNat : Nat) : Int) = n := by omega
  have e2 : ((o.toNat : Nat) : Int) = o := by omega
  simp only [e1, e2] at h
  exact h
theorem has_no1 (n o : Int) (hn : ¬ (0 ≤ n ∧ n ≤ 15)) : hasB n o = false := by
  unfold hasB
  rw [decide_eq_false hn]; rfl
theorem has_no2 (n o : Int) (ho : ¬ (0 ≤ o ∧ o ≤ 15)) : hasB n o = false := by
  unfold hasB
  rw [decide_eq_false (p := o = 1 ∨ o = 2 ∨ o = 4 ∨ o = 8) (by omega)]; simp
theorem hasS (n o : Int) (b : Bool) (hb : hasB n o = b) (w : World) : Calls Tryd.prog 34 #[.int .i64 n, .int .i64 o] w fun e w' => e = .returned (.bool b) ∧ w' = w := by
  go_enter Tryd.func34, Tryd.ntmps34
  by_cases hn : 0 ≤ n ∧ n ≤ 15
  · by_cases ho : o = 1 ∨ o = 2 ∨ o = 4 ∨ o = 8
    · go_wp2_with fail
      refine (senseS n true (decide_eq_true hn) _).mono ?_
      rintro e w1 ⟨rfl, rfl⟩
      rcases ho with rfl | rfl | rfl | rfl
      all_goals
        go_wp2
        go_ret
        refine ⟨?_, rfl⟩
        rw [← hb]
        show Ending.returned (Value.bool _) = _
        congr 2
        unfold hasB
        rw [decide_eq_true hn]
        simp
        rfl
    · obtain rfl : b = false := by rw [← hb]; unfold hasB; rw [decide_eq_false ho]; simp
      clear hb
      go_wp2_with fail
      refine (senseS n true (decide_eq_true hn) _).mono ?_
      rintro e w1 ⟨rfl, rfl⟩
      have h1 : (o != 1) = true := bne_iff_ne.mpr fun h => ho (Or.inl h)
      have h2 : (o != 2) = true := bne_iff_ne.mpr fun h => ho (Or.inr (Or.inl h))
      have h4 : (o != 4) = true := bne_iff_ne.mpr fun h => ho (Or.inr (Or.inr (Or.inl h)))
      have h8 : (o != 8) = true := bne_iff_ne.mpr fun h => ho (Or.inr (Or.inr (Or.inr h)))
      clear ho hn
      go_wp2
      go_ret
      exact ⟨rfl, rfl⟩
  · obtain rfl : b = false := by rw [← hb]; exact has_no1 n o hn
    clear hb
    have D := decide_eq_false hn
    clear hn
    go_wp2_with fail
    refine (senseS n false D _).mono ?_
    rintro e w1 ⟨rfl, rfl⟩
    go_wp2
    go_ret
    exact ⟨rfl, rfl⟩
end Go.Proofs.YtckeffccoghgeaaDoor.J
namespace Go.Proofs.YtckeffccoghgeaaDoor.J
open Go.RowKit Go.PlainAid
set_option linter.unusedVariables false

theorem own_lt {w : World} {B e z n : Nat} {v : Value} {xs : List Value} (h : w.ownsRow B e z v n xs) : ∀ g, v.ownBlock = some g → g < w.heap.size := fun k hk => (h.lt k hk).2

theorem own_ge {w : World} {B e z n : Nat} {v : Value} {xs : List Value} (h : w.ownsRow B e z v n xs) : ∀ g, v.ownBlock = some g → B ≤ g := fun k hk => (h.lt k hk).1

theorem own_keep {w w' : World} {B C e z n : Nat} {v : Value} {xs : List Value} (h : w.ownsRow B e z v n xs) (hb : Below C w w') (hlt : ∀ g, v.ownBlock = some g → g < C) : w'.ownsRow B e z v n xs := by
  refine ⟨h.1, ?_⟩
  rcases h.2 with h2 | ⟨g, cap, cur, rfl, hg, hh, h3⟩
  · exact .inl h2
  · exact .inr ⟨g, cap, cur, rfl, hg, by rw [hb.block g (hlt g rfl)]; exact hh, h3⟩

def strV (l : List ByteArray) : List Value := l.map Value.string

theorem strV_len (l : List ByteArray) : (strV l).length = l.length := List.length_map ..

theorem info9 : (Tryd.prog.info? 9).map (fun i => (i.zero, i.size, i.bytes)) = some (some (.string ⟨#[]⟩), 1, 16) := by kernel_rfl

theorem own_form {w : World} {B n : Nat} {v : Value} {l : List ByteArray} (h : w.ownsRow B 9 1 v n (strV l)) :
    ∃ a cap, v = .slice a n cap ∧ (0 < n → ∃ g, a = some ⟨g, 0, none⟩ ∧ v.ownBlock = some g ∧ ∀ j x, l[j]? = some x → w.cell? ⟨g, j, none⟩ = some (.string x) ∧ w.frozen? ⟨g, j, none⟩ = false) := by
  have h' := h
  have hl : l.length = n := by have := h.1; rw [strV_len] at this; omega
  rcases h.2 with ⟨rfl, e⟩ | ⟨g, cap, cur, rfl, hg, hh, hnc, hcp, hcs, htake⟩
  · exact ⟨none, 0, by rw [e], fun hp => by omega⟩
  · refine ⟨_, cap, rfl, fun _ => ⟨g, rfl, rfl, fun j x hj => ⟨?_, h'.frozenAt j⟩⟩⟩
    have hlt := (List.getElem?_eq_some_iff.1 hj).1
    have := h'.cellAt j (by omega)
    rw [this]
    simp [strV, hj]
theorem rel_str {w W1 w1 wr : World} {v v' : Value} {xs : List ByteArray} {x : ByteArray} {n : Nat} (hW : Below w.heap.size w W1) (hB : w.heap.size ≤ W1.heap.size) (hown : wr.ownsRow w.heap.size 9 1 v xs.length (strV xs))
    (hown' : w1.ownsRow w.heap.size 9 1 v' n (strV xs ++ [.string x])) (hgrow : W1.grownBy w1 v.ownBlock) (hn : n = xs.length + 1) :
    w1.ownsRow w.heap.size 9 1 v' (xs ++ [x]).length (strV (xs ++ [x])) ∧ Below w.heap.size w w1 := by
  refine ⟨?_, hW.grown hgrow hB (own_ge hown)⟩
  subst hn
  rw [show strV (xs ++ [x]) = strV xs ++ [.string x] by simp [strV], List.length_append]
  exact hown'
theorem one_str (wr : World) (x : Value) (a : Addr) (ha : a = ⟨wr.heap.size, 0, none⟩) : ∀ j u, [x][j]? = some u → (wr.alloc (.cells #[x] 9)).cell? (a.add j) = some u := by
  intro j u hj
  subst ha
  match j, hj with
  | 0, hj => simp at hj; subst hj; simp [Addr.add]
theorem own_none (w : World) (B : Nat) : w.ownsRow B 9 1 (.slice none 0 0) ([] : List ByteArray).length (strV []) := World.ownsRow_nil _ _ _ _

def nmL : List ByteArray := [⟨#[98, 108, 111, 99, 107]⟩, ⟨#[97, 105, 114]⟩, ⟨#[100, 111, 111, 114]⟩, ⟨#[112, 111, 119, 101, 114]⟩]
def nmS (r : Nat) : ByteArray := nmL.getD r ⟨#[]⟩
/-- the names of the first k senses that are in it -/
def felt (s : Int) : Nat → List ByteArray
  | 0 => []
  | k + 1 => if bitB s ((2 ^ k : Nat) : Int) then felt s k ++ [nmS k] else felt s k
def nameB (s : Int) : ByteArray := if s = 0 then ⟨#[110, 111, 110, 101]⟩ else ⟨(Lib.join ((felt s 4).map (·.data.toList)) [44]).toArray⟩
def nameN (n : Int) : ByteArray := if 0 ≤ n ∧ n ≤ 15 then nameB n else ⟨#[]⟩
/-- the program's table of names -/
def TabS (w : World) : Prop := ∀ r, r < 4 → w.cell? ⟨0, r, none⟩ = some (.string (nmS r))
theorem tabS_below {w w' : World} (h : TabS w) (hb : Below w.heap.size w w') : TabS w' := fun r hr =>
  (hb.cell (p := ⟨0, r, none⟩) (World.block_lt_of_cell? w _ (h r hr))).trans (h r hr)
theorem felt_len (s : Int) : ∀ k, (felt s k).length ≤ k
  | 0 => Nat.le_refl _
  | k + 1 => by
    have := felt_len s k
    unfold felt
    split
    · simp; omega
    · omega
theorem own_cells {w : World} {B : Nat} {a : Option Addr} {cap : Nat} {l : List ByteArray} (h : w.ownsRow B 9 1 (.slice a l.length cap) l.length (strV l)) (hp : 0 < l.length) :
    ∃ g, a = some ⟨g, 0, none⟩ ∧ g < w.heap.size ∧ l.length ≤ cap ∧ ∀ (j : Nat) x, l[j]? = some x → w.cell? ⟨g, 0 + j, none⟩ = some (.string x) := by
  obtain ⟨a', cap', hv, hc⟩ := own_form h
  obtain ⟨g, rfl, hob, hce⟩ := hc hp
  injection hv with h1 h2 h3
  subst h1 h3
  refine ⟨g, rfl, own_lt h g rfl, ?_, fun j x hj => by rw [Nat.zero_add]; exact (hce j x hj).1⟩
  rcases h.2 with ⟨e, _⟩ | ⟨g', cap', cur, e, hg, hh, hnc, _⟩
  · cases e
  · injection e with e1 e2 e3
    omega
theorem felt_pos : ∀ i : Fin 15, 0 < (felt ((i.val + 1 : Nat) : Int) 4).length := by decide +kernel
theorem felt_fin : ∀ i : Fin 16, (felt (i.val : Int) 4).length ≤ 4 ∧ (Lib.join ((felt (i.val : Int) 4).map (·.data.toList)) [44]).length ≤ 20 := by decide +kernel

set_option maxRecDepth 100000 in
set_option maxHeartbeats 1000000 in
theorem namesI (s : Int) (h0 : 0 ≤ s) (h15 : s ≤ 15) (w : World) (ht : TabS w) : Calls Tryd.prog 45 #[.int .u8 s] w fun e w' => e = .returned (.string (nameB s)) ∧ Below w.heap.size w w' := by
  obtain ⟨i0, hi, hz0, hz1, hz2⟩ := info_parts info9
  by_cases hs : s = 0
  · subst hs
    clear ht
    go_enter Tryd.func45, Tryd.ntmps45
    go_wp2
    go_ret
    exact ⟨rfl, Below.refl _ _⟩
  · have c0 := ht 0 (by decide)
    have c1 := ht 1 (by decide)
    have c2 := ht 2 (by decide)
    have c3 := ht 3 (by decide)
    go_enter Tryd.func45, Tryd.ntmps45
    go_wp2
    clear ht c0 c1 c2 c3
    have hs0 : (s == 0) = false := by simpa using hs
    rw [hs0]
    go_loopw [3, 9] (fun v i wr => ∃ (k : Nat), k ≤ 4 ∧ i = .int .i64 k ∧ wr.ownsRow w.heap.size 9 1 v (felt s k).length (strV (felt s k)) ∧ Below w.heap.size w wr) (fun _ i _ => 4 - (intOf i).toNat)
    case atStart => exact ⟨0, by decide, rfl, own_none _ _, Below.refl _ _⟩
    case round =>
      obtain ⟨k, hk, rfl, hown, hnx⟩ := hrel
      have hsz := hnx.size
      obtain ⟨ao, cap, hv, hcs⟩ := own_form hown
      subst hv
      have hk5 : k = 0 ∨ k = 1 ∨ k = 2 ∨ k = 3 ∨ k = 4 := by omega
      clear hk
      by_cases h4 : k = 4
      · subst h4
        clear hk5 hcs
        obtain ⟨hl4, hl20⟩ : (felt s 4).length ≤ 4 ∧ (Lib.join ((felt s 4).map (·.data.toList)) [44]).length ≤ 20 := by
          have h := felt_fin ⟨s.toNat, by omega⟩
          have e1 : ((s.toNat : Nat) : Int) = s := by omega
          simp only [e1] at h
          exact h
        have hp : 0 < (felt s 4).length := by
          have h := felt_pos ⟨s.toNat - 1, by omega⟩
          have e1 : ((s.toNat - 1 + 1 : Nat) : Int) = s := by omega
          simp only [e1] at h
          exact h
        have HN : Hid (nameB s = ⟨(Lib.join ((felt s 4).map (·.data.toList)) [44]).toArray⟩) := by unfold Hid nameB; rw [if_neg hs]
        obtain ⟨g, rfl, hg, hcap, hce⟩ := own_cells hown hp
        have HC : Hid (∀ (j : Nat) x, (felt s 4)[j]? = some x → wr.cell? ⟨g, 0 + j, none⟩ = some (.string x)) := hce
        have HL : Hid ((Lib.join ((felt s 4).map (·.data.toList)) [44]).length ≤ 20) := hl20
        clear hown hce hl20 h0 h15 hs
        generalize felt s 4 = xs at *
        go_wp2_with fail
        refine (Tryd.strings_Join g 0 cap xs ⟨#[44]⟩ _ HC.out hg (by omega) hcap (by have := HL.out; show (Lib.join _ [44]).length ≤ _; omega)).mono ?_
        rintro e w2 ⟨rfl, hb2⟩
        go_wp2
        go_ret
        exact ⟨by rw [HN.out]; rfl, hnx.trans (hb2.mono hsz)⟩
      · replace hk5 : k = 0 ∨ k = 1 ∨ k = 2 ∨ k = 3 := by omega
        clear h4 hcs
        rcases hk5 with rfl | rfl | rfl | rfl
        · have HF : Hid (felt s 1 = if bitB s 1 then felt s 0 ++ [nmS 0] else felt s 0) := rfl
          have hlen : (felt s 0).length ≤ 0 := felt_len s 0
          have ix : ∀ w, (Instr.index 100 (.agg #[.string (nmS 0), .string (nmS 1), .string (nmS 2), .string (nmS 3)]) (.int .i64 0)).run Tryd.prog w = .ok (.string (nmS 0)) w := fun _ => by kernel_rfl
          generalize felt s 0 = xs at *
          generalize nmS 0 = x at *
          go_wp2_with fail
          refine (bitI s 1 _).mono ?_
          rintro e w1 ⟨rfl, rfl⟩
          cases hb : bitB s 1
          · rw [hb] at HF
            have HE : Hid (felt s 1 = xs) := HF
            clear HF hb
            go_wp2
            go_roundw
            case rel => exact ⟨1, by decide, rfl, by rw [HE.out]; exact hown, hnx⟩
            case measure => simp [intOf]
          · rw [hb] at HF
            have HE : Hid (felt s 1 = xs ++ [x]) := HF
            clear HF hb
            go_wp2_with (at_builtin; refine wpList_append_own _ rfl _ _ 68 rfl w.heap.size 9 i0 (.string ⟨#[]⟩) 1 16 Tryd.underlying68 hi hz0 hz1 hz2 rfl (by decide) _ _ _ rfl (hown.alloc _) ⟨w1.heap.size, 0, none⟩ 1 1 [.string x] rfl rfl ?c1 ?c2 ?c3 ?c4 ?c5 ?_)
            case c1 => exact one_str w1 _ _ rfl
            case c2 => intro u hu; simp at hu; subst hu; rfl
            case c3 => unfold maxLen; omega
            case c4 => first | omega | (simp; done) | (simp; omega)
            case c5 => first | omega | (simp; done) | (simp; omega)
            intro v' w5 hown5 hgrow _
            have R := rel_str (x := x) (hnx.alloc hsz _) (by simp; omega) hown hown5 hgrow rfl
            clear hown5 hgrow hown hnx
            go_wp2
            go_roundw
            case rel => exact ⟨1, by decide, rfl, by rw [HE.out]; exact R.1, R.2⟩
            case measure => simp [intOf]
        · have HF : Hid (felt s 2 = if bitB s 2 then felt s 1 ++ [nmS 1] else felt s 1) := rfl
          have hlen : (felt s 1).length ≤ 1 := felt_len s 1
          have ix : ∀ w, (Instr.index 100 (.agg #[.string (nmS 0), .string (nmS 1), .string (nmS 2), .string (nmS 3)]) (.int .i64 1)).run Tryd.prog w = .ok (.string (nmS 1)) w := fun _ => by kernel_rfl
          generalize felt s 1 = xs at *
          generalize nmS 1 = x at *
          go_wp2_with fail
          refine (bitI s 2 _).mono ?_
          rintro e w1 ⟨rfl, rfl⟩
          cases hb : bitB s 2
          · rw [hb] at HF
            have HE : Hid (felt s 2 = xs) := HF
            clear HF hb
            go_wp2
            go_roundw
            case rel => exact ⟨2, by decide, rfl, by rw [HE.out]; exact hown, hnx⟩
            case measure => simp [intOf]
          · rw [hb] at HF
            have HE : Hid (felt s 2 = xs ++ [x]) := HF
            clear HF hb
            go_wp2_with (at_builtin; refine wpList_append_own _ rfl _ _ 68 rfl w.heap.size 9 i0 (.string ⟨#[]⟩) 1 16 Tryd.underlying68 hi hz0 hz1 hz2 rfl (by decide) _ _ _ rfl (hown.alloc _) ⟨w1.heap.size, 0, none⟩ 1 1 [.string x] rfl rfl ?c1 ?c2 ?c3 ?c4 ?c5 ?_)
            case c1 => exact one_str w1 _ _ rfl
            case c2 => intro u hu; simp at hu; subst hu; rfl
            case c3 => unfold maxLen; omega
            case c4 => first | omega | (simp; done) | (simp; omega)
            case c5 => first | omega | (simp; done) | (simp; omega)
            intro v' w5 hown5 hgrow _
            have R := rel_str (x := x) (hnx.alloc hsz _) (by simp; omega) hown hown5 hgrow rfl
            clear hown5 hgrow hown hnx
            go_wp2
            go_roundw
            case rel => exact ⟨2, by decide, rfl, by rw [HE.out]; exact R.1, R.2⟩
            case measure => simp [intOf]
        · have HF : Hid (felt s 3 = if bitB s 4 then felt s 2 ++ [nmS 2] else felt s 2) := rfl
          have hlen : (felt s 2).length ≤ 2 := felt_len s 2
          have ix : ∀ w, (Instr.index 100 (.agg #[.string (nmS 0), .string (nmS 1), .string (nmS 2), .string (nmS 3)]) (.int .i64 2)).run Tryd.prog w = .ok (.string (nmS 2)) w := fun _ => by kernel_rfl
          generalize felt s 2 = xs at *
          generalize nmS 2 = x at *
          go_wp2_with fail
          refine (bitI s 4 _).mono ?_
          rintro e w1 ⟨rfl, rfl⟩
          cases hb : bitB s 4
          · rw [hb] at HF
            have HE : Hid (felt s 3 = xs) := HF
            clear HF hb
            go_wp2
            go_roundw
            case rel => exact ⟨3, by decide, rfl, by rw [HE.out]; exact hown, hnx⟩
            case measure => simp [intOf]
          · rw [hb] at HF
            have HE : Hid (felt s 3 = xs ++ [x]) := HF
            clear HF hb
            go_wp2_with (at_builtin; refine wpList_append_own _ rfl _ _ 68 rfl w.heap.size 9 i0 (.string ⟨#[]⟩) 1 16 Tryd.underlying68 hi hz0 hz1 hz2 rfl (by decide) _ _ _ rfl (hown.alloc _) ⟨w1.heap.size, 0, none⟩ 1 1 [.string x] rfl rfl ?c1 ?c2 ?c3 ?c4 ?c5 ?_)
            case c1 => exact one_str w1 _ _ rfl
            case c2 => intro u hu; simp at hu; subst hu; rfl
            case c3 => unfold maxLen; omega
            case c4 => first | omega | (simp; done) | (simp; omega)
            case c5 => first | omega | (simp; done) | (simp; omega)
            intro v' w5 hown5 hgrow _
            have R := rel_str (x := x) (hnx.alloc hsz _) (by simp; omega) hown hown5 hgrow rfl
            clear hown5 hgrow hown hnx
            go_wp2
            go_roundw
            case rel => exact ⟨3, by decide, rfl, by rw [HE.out]; exact R.1, R.2⟩
            case measure => simp [intOf]
        · have HF : Hid (felt s 4 = if bitB s 8 then felt s 3 ++ [nmS 3] else felt s 3) := rfl
          have hlen : (felt s 3).length ≤ 3 := felt_len s 3
          have ix : ∀ w, (Instr.index 100 (.agg #[.string (nmS 0), .string (nmS 1), .string (nmS 2), .string (nmS 3)]) (.int .i64 3)).run Tryd.prog w = .ok (.string (nmS 3)) w := fun _ => by kernel_rfl
          generalize felt s 3 = xs at *
          generalize nmS 3 = x at *
          go_wp2_with fail
          refine (bitI s 8 _).mono ?_
          rintro e w1 ⟨rfl, rfl⟩
          cases hb : bitB s 8
          · rw [hb] at HF
            have HE : Hid (felt s 4 = xs) := HF
            clear HF hb
            go_wp2
            go_roundw
            case rel => exact ⟨4, by decide, rfl, by rw [HE.out]; exact hown, hnx⟩
            case measure => simp [intOf]
          · rw [hb] at HF
            have HE : Hid (felt s 4 = xs ++ [x]) := HF
            clear HF hb
            go_wp2_with (at_builtin; refine wpList_append_own _ rfl _ _ 68 rfl w.heap.size 9 i0 (.string ⟨#[]⟩) 1 16 Tryd.underlying68 hi hz0 hz1 hz2 rfl (by decide) _ _ _ rfl (hown.alloc _) ⟨w1.heap.size, 0, none⟩ 1 1 [.string x] rfl rfl ?c1 ?c2 ?c3 ?c4 ?c5 ?_)
            case c1 => exact one_str w1 _ _ rfl
            case c2 => intro u hu; simp at hu; subst hu; rfl
            case c3 => unfold maxLen; omega
            case c4 => first | omega | (simp; done) | (simp; omega)
            case c5 => first | omega | (simp; done) | (simp; omega)
            intro v' w5 hown5 hgrow _
            have R := rel_str (x := x) (hnx.alloc hsz _) (by simp; omega) hown hown5 hgrow rfl
            clear hown5 hgrow hown hnx
            go_wp2
            go_roundw
            case rel => exact ⟨4, by decide, rfl, by rw [HE.out]; exact R.1, R.2⟩
            case measure => simp [intOf]

theorem sNamesI (n : Int) (w : World) (ht : TabS w) : Calls Tryd.prog 22 #[.int .i64 n] w fun e w' => e = .returned (.string (nameN n)) ∧ Below w.heap.size w w' := by
  have HT : Hid (TabS w) := ht
  clear ht
  by_cases h : 0 ≤ n ∧ n ≤ 15
  · have HN : Hid (nameN n = nameB n) := if_pos h
    have e256 : n % 256 = n := by omega
    go_enter Tryd.func22, Tryd.ntmps22
    go_wp2_with fail
    refine (senseI n true (decide_eq_true h) _).mono ?_
    rintro e w1 ⟨rfl, hb1⟩
    go_wp2_with fail
    refine (namesI n h.1 h.2 _ (tabS_below HT.out hb1)).mono ?_
    rintro e w2 ⟨rfl, hb2⟩
    go_wp2
    go_ret
    exact ⟨by rw [HN.out]; rfl, bel_on (Nat.le_refl _) hb1 hb2⟩
  · have HN : Hid (nameN n = ⟨#[]⟩) := if_neg h
    have D := decide_eq_false h
    clear h
    go_enter Tryd.func22, Tryd.ntmps22
    go_wp2_with fail
    refine (senseI n false D _).mono ?_
    rintro e w1 ⟨rfl, hb1⟩
    go_wp2
    go_ret
    exact ⟨by rw [HN.out]; rfl, hb1⟩
end Go.Proofs.YtckeffccoghgeaaDoor.J
namespace Go.Proofs.YtckeffccoghgeaaDoor.J
open Go.RowKit Go.PlainAid
set_option linter.unusedVariables false

/-- what the specification has gathered behind k names -/
def gat (s : Int) : Nat → ByteArray
  | 0 => ⟨#[]⟩
  | k + 1 => if hasB s ((2 ^ k : Nat) : Int) then (if gat s k = ⟨#[]⟩ then gat s k ++ nmS k else gat s k ++ ⟨#[44]⟩ ++ nmS k) else gat s k
theorem nm_size : ∀ k, (nmS k).size ≤ 5
  | 0 => by decide
  | 1 => by decide
  | 2 => by decide
  | 3 => by decide
  | k + 4 => by show (⟨#[]⟩ : ByteArray).size ≤ 5; decide
theorem gat_size (s : Int) : ∀ k, (gat s k).size ≤ 6 * k
  | 0 => Nat.le_refl 0
  | k + 1 => by
    have h1 := gat_size s k
    have h2 := nm_size k
    have h3 : (⟨#[44]⟩ : ByteArray).size = 1 := rfl
    unfold gat
    split
    · split
      · rw [ByteArray.size_append]; omega
      · rw [ByteArray.size_append, ByteArray.size_append]; omega
    · omega
theorem gat_fin : ∀ i : Fin 16, (if gat (i.val : Int) 4 = ⟨#[]⟩ then (⟨#[110, 111, 110, 101]⟩ : ByteArray) else gat (i.val : Int) 4) = nameB (i.val : Int) := by decide +kernel
theorem gat_eq (s : Int) (h : 0 ≤ s ∧ s ≤ 15) : (if gat s 4 = ⟨#[]⟩ then (⟨#[110, 111, 110, 101]⟩ : ByteArray) else gat s 4) = nameB s := by
  have h := gat_fin ⟨s.toNat, by omega⟩
  have e1 : ((s.toNat : Nat) : Int) = s := by omega
  simp only [e1] at h
  exact h

theorem not_empty {T : ByteArray} (h : 0 < T.size) : T.toList.isEmpty = false := by
  rw [ByteArray.toList_eq]
  cases e : T.data.toList with
  | nil =>
    have h2 : T.data.toList.length = 0 := by rw [e]; rfl
    rw [Array.length_toList] at h2
    have h3 : T.size = 0 := h2
    omega
  | cons x y => rfl
theorem ne_empty {s : ByteArray} (h : ¬ s = ⟨#[]⟩) : s.toList.isEmpty = false := not_empty (Nat.pos_of_ne_zero fun e => h (ByteArray.ext (Array.eq_empty_of_size_eq_zero e)))
theorem two_rows (w : World) (W : World := (w.alloc (.cells #[.string ⟨#[98, 108, 111, 99, 107]⟩, .string ⟨#[97, 105, 114]⟩, .string ⟨#[100, 111, 111, 114]⟩, .string ⟨#[112, 111, 119, 101, 114]⟩] 9)).alloc (.cells #[.int .i64 1, .int .i64 2, .int .i64 4, .int .i64 8] 3)) (hW : W = (w.alloc (.cells #[.string ⟨#[98, 108, 111, 99, 107]⟩, .string ⟨#[97, 105, 114]⟩, .string ⟨#[100, 111, 111, 114]⟩, .string ⟨#[112, 111, 119, 101, 114]⟩] 9)).alloc (.cells #[.int .i64 1, .int .i64 2, .int .i64 4, .int .i64 8] 3) := by rfl) :
    W.cell? ⟨w.heap.size, 0, none⟩ = some (.string (nmS 0)) ∧ W.cell? ⟨w.heap.size, 1, none⟩ = some (.string (nmS 1)) ∧ W.cell? ⟨w.heap.size, 2, none⟩ = some (.string (nmS 2)) ∧ W.cell? ⟨w.heap.size, 3, none⟩ = some (.string (nmS 3)) ∧
      W.cell? ⟨w.heap.size + 1, 0, none⟩ = some (.int .i64 1) ∧ W.cell? ⟨w.heap.size + 1, 1, none⟩ = some (.int .i64 2) ∧ W.cell? ⟨w.heap.size + 1, 2, none⟩ = some (.int .i64 4) ∧ W.cell? ⟨w.heap.size + 1, 3, none⟩ = some (.int .i64 8) := by
  subst hW
  have e0 : ((w.alloc (.cells #[.string ⟨#[98, 108, 111, 99, 107]⟩, .string ⟨#[97, 105, 114]⟩, .string ⟨#[100, 111, 111, 114]⟩, .string ⟨#[112, 111, 119, 101, 114]⟩] 9)).alloc (.cells #[.int .i64 1, .int .i64 2, .int .i64 4, .int .i64 8] 3)).heap[w.heap.size]? = some (.cells #[.string ⟨#[98, 108, 111, 99, 107]⟩, .string ⟨#[97, 105, 114]⟩, .string ⟨#[100, 111, 111, 114]⟩, .string ⟨#[112, 111, 119, 101, 114]⟩] 9) := by
    show ((w.heap.push _).push _)[w.heap.size]? = _
    rw [Array.getElem?_push_lt (by simp)]
    simp
  have e1 : ((w.alloc (.cells #[.string ⟨#[98, 108, 111, 99, 107]⟩, .string ⟨#[97, 105, 114]⟩, .string ⟨#[100, 111, 111, 114]⟩, .string ⟨#[112, 111, 119, 101, 114]⟩] 9)).alloc (.cells #[.int .i64 1, .int .i64 2, .int .i64 4, .int .i64 8] 3)).heap[w.heap.size + 1]? = some (.cells #[.int .i64 1, .int .i64 2, .int .i64 4, .int .i64 8] 3) := by
    have h := heap_alloc_new (w.alloc (.cells #[.string ⟨#[98, 108, 111, 99, 107]⟩, .string ⟨#[97, 105, 114]⟩, .string ⟨#[100, 111, 111, 114]⟩, .string ⟨#[112, 111, 119, 101, 114]⟩] 9)) (.cells #[.int .i64 1, .int .i64 2, .int .i64 4, .int .i64 8] 3)
    rw [show (w.alloc (.cells #[.string ⟨#[98, 108, 111, 99, 107]⟩, .string ⟨#[97, 105, 114]⟩, .string ⟨#[100, 111, 111, 114]⟩, .string ⟨#[112, 111, 119, 101, 114]⟩] 9)).heap.size = w.heap.size + 1 from by simp] at h
    exact h
  refine ⟨?_, ?_, ?_, ?_, ?_, ?_, ?_, ?_⟩
  · rw [cell_of_row _ _ 0 _ _ _ e0]; rfl
  · rw [cell_of_row _ _ 1 _ _ _ e0]; rfl
  · rw [cell_of_row _ _ 2 _ _ _ e0]; rfl
  · rw [cell_of_row _ _ 3 _ _ _ e0]; rfl
  · rw [cell_of_row _ _ 0 _ _ _ e1]; rfl
  · rw [cell_of_row _ _ 1 _ _ _ e1]; rfl
  · rw [cell_of_row _ _ 2 _ _ _ e1]; rfl
  · rw [cell_of_row _ _ 3 _ _ _ e1]; rfl

set_option maxRecDepth 100000 in
set_option maxHeartbeats 1000000 in
theorem sNamesS (n : Int) (w : World) : Calls Tryd.prog 14 #[.int .i64 n] w fun e w' => e = .returned (.string (nameN n)) ∧ Below w.heap.size w w' := by
  by_cases h : 0 ≤ n ∧ n ≤ 15
  · have HN : Hid (nameN n = nameB n) := if_pos h
    have HG : Hid ((if gat n 4 = ⟨#[]⟩ then (⟨#[110, 111, 110, 101]⟩ : ByteArray) else gat n 4) = nameB n) := gat_eq n h
    go_enter Tryd.func14, Tryd.ntmps14
    go_wp2_with fail
    refine (senseS n true (decide_eq_true h) _).mono ?_
    rintro e w1 ⟨rfl, rfl⟩
    clear h
    go_wp2
    obtain ⟨n0, n1, n2, n3, i0, i1, i2, i3⟩ := two_rows w
    have HB : Hid (Below w.heap.size w ((w.alloc (.cells #[.string ⟨#[98, 108, 111, 99, 107]⟩, .string ⟨#[97, 105, 114]⟩, .string ⟨#[100, 111, 111, 114]⟩, .string ⟨#[112, 111, 119, 101, 114]⟩] 9)).alloc (.cells #[.int .i64 1, .int .i64 2, .int .i64 4, .int .i64 8] 3))) := ((Below.refl _ _).alloc (Nat.le_refl _) _).alloc (by simp) _
    change Hid (Below w.heap.size w ((w.alloc _).alloc _)) at HB
    generalize hWe : World.alloc (World.alloc w _) _ = W at *
    clear hWe
    go_loopw [5, 6] (fun v i wr => ∃ (k : Nat), k ≤ 4 ∧ i = .int .i64 k ∧ v = .string (gat n k) ∧ wr = W) (fun _ i _ => 4 - (intOf i).toNat)
    case atStart => exact ⟨0, by decide, rfl, rfl, rfl⟩
    case round =>
      obtain ⟨k, hk, rfl, rfl, rfl⟩ := hrel
      have hk5 : k = 4 ∨ k = 0 ∨ k = 1 ∨ k = 2 ∨ k = 3 := by omega
      clear hk
      rcases hk5 with rfl | rfl | rfl | rfl | rfl
      · generalize gat n 4 = s at *
        by_cases he : s = ⟨#[]⟩
        · rw [if_pos he] at HG
          subst he
          go_wp2
          go_ret
          exact ⟨by rw [HN.out, ← HG.out]; rfl, HB.out⟩
        · rw [if_neg he] at HG
          have hne := ne_empty he
          clear he
          go_wp2
          go_ret
          exact ⟨by rw [HN.out, ← HG.out]; rfl, HB.out⟩
      · have HF : Hid (gat n 1 = if hasB n 1 then (if gat n 0 = ⟨#[]⟩ then gat n 0 ++ nmS 0 else gat n 0 ++ ⟨#[44]⟩ ++ nmS 0) else gat n 0) := rfl
        have hxs : (nmS 0).size ≤ 5 := by decide
        have hss : (gat n 0).size ≤ 6 * 0 := gat_size n 0
        generalize gat n 0 = s at *
        generalize nmS 0 = x at *
        go_wp2_with fail
        refine (hasS n 1 _ rfl _).mono ?_
        rintro e w1 ⟨rfl, rfl⟩
        cases hb : hasB n 1
        · rw [hb] at HF
          have HE : Hid (gat n 1 = s) := HF
          clear HF hb
          go_wp2
          go_roundw
          case rel => exact ⟨1, by decide, rfl, by rw [HE.out], by first | rfl | trivial⟩
          case measure => simp [intOf]
        · rw [hb] at HF
          by_cases he : s = ⟨#[]⟩
          · have HE : Hid (gat n 1 = s ++ x) := by have := HF.out; rw [if_pos he] at this; exact this
            clear HF hb
            subst he
            go_wp2
            go_roundw
            case rel => exact ⟨1, by decide, rfl, by rw [HE.out], by first | rfl | trivial⟩
            case measure => simp [intOf]
          · have HE : Hid (gat n 1 = s ++ ⟨#[44]⟩ ++ x) := by have := HF.out; rw [if_neg he] at this; exact this
            have hne := ne_empty he
            have hsz : (s ++ ⟨#[44]⟩ : ByteArray).size = s.size + 1 := by rw [ByteArray.size_append]; rfl
            clear HF hb he
            go_wp2
            go_roundw
            case rel => exact ⟨1, by decide, rfl, by rw [HE.out], by first | rfl | trivial⟩
            case measure => simp [intOf]
      · have HF : Hid (gat n 2 = if hasB n 2 then (if gat n 1 = ⟨#[]⟩ then gat n 1 ++ nmS 1 else gat n 1 ++ ⟨#[44]⟩ ++ nmS 1) else gat n 1) := rfl
        have hxs : (nmS 1).size ≤ 5 := by decide
        have hss : (gat n 1).size ≤ 6 * 1 := gat_size n 1
        generalize gat n 1 = s at *
        generalize nmS 1 = x at *
        go_wp2_with fail
        refine (hasS n 2 _ rfl _).mono ?_
        rintro e w1 ⟨rfl, rfl⟩
        cases hb : hasB n 2
        · rw [hb] at HF
          have HE : Hid (gat n 2 = s) := HF
          clear HF hb
          go_wp2
          go_roundw
          case rel => exact ⟨2, by decide, rfl, by rw [HE.out], by first | rfl | trivial⟩
          case measure => simp [intOf]
        · rw [hb] at HF
          by_cases he : s = ⟨#[]⟩
          · have HE : Hid (gat n 2 = s ++ x) := by have := HF.out; rw [if_pos he] at this; exact this
            clear HF hb
            subst he
            go_wp2
            go_roundw
            case rel => exact ⟨2, by decide, rfl, by rw [HE.out], by first | rfl | trivial⟩
            case measure => simp [intOf]
          · have HE : Hid (gat n 2 = s ++ ⟨#[44]⟩ ++ x) := by have := HF.out; rw [if_neg he] at this; exact this
            have hne := ne_empty he
            have hsz : (s ++ ⟨#[44]⟩ : ByteArray).size = s.size + 1 := by rw [ByteArray.size_append]; rfl
            clear HF hb he
            go_wp2
            go_roundw
            case rel => exact ⟨2, by decide, rfl, by rw [HE.out], by first | rfl | trivial⟩
            case measure => simp [intOf]
      · have HF : Hid (gat n 3 = if hasB n 4 then (if gat n 2 = ⟨#[]⟩ then gat n 2 ++ nmS 2 else gat n 2 ++ ⟨#[44]⟩ ++ nmS 2) else gat n 2) := rfl
        have hxs : (nmS 2).size ≤ 5 := by decide
        have hss : (gat n 2).size ≤ 6 * 2 := gat_size n 2
        generalize gat n 2 = s at *
        generalize nmS 2 = x at *
        go_wp2_with fail
        refine (hasS n 4 _ rfl _).mono ?_
        rintro e w1 ⟨rfl, rfl⟩
        cases hb : hasB n 4
        · rw [hb] at HF
          have HE : Hid (gat n 3 = s) := HF
          clear HF hb
          go_wp2
          go_roundw
          case rel => exact ⟨3, by decide, rfl, by rw [HE.out], by first | rfl | trivial⟩
          case measure => simp [intOf]
        · rw [hb] at HF
          by_cases he : s = ⟨#[]⟩
          · have HE : Hid (gat n 3 = s ++ x) := by have := HF.out; rw [if_pos he] at this; exact this
            clear HF hb
            subst he
            go_wp2
            go_roundw
            case rel => exact ⟨3, by decide, rfl, by rw [HE.out], by first | rfl | trivial⟩
            case measure => simp [intOf]
          · have HE : Hid (gat n 3 = s ++ ⟨#[44]⟩ ++ x) := by have := HF.out; rw [if_neg he] at this; exact this
            have hne := ne_empty he
            have hsz : (s ++ ⟨#[44]⟩ : ByteArray).size = s.size + 1 := by rw [ByteArray.size_append]; rfl
            clear HF hb he
            go_wp2
            go_roundw
            case rel => exact ⟨3, by decide, rfl, by rw [HE.out], by first | rfl | trivial⟩
            case measure => simp [intOf]
      · have HF : Hid (gat n 4 = if hasB n 8 then (if gat n 3 = ⟨#[]⟩ then gat n 3 ++ nmS 3 else gat n 3 ++ ⟨#[44]⟩ ++ nmS 3) else gat n 3) := rfl
        have hxs : (nmS 3).size ≤ 5 := by decide
        have hss : (gat n 3).size ≤ 6 * 3 := gat_size n 3
        generalize gat n 3 = s at *
        generalize nmS 3 = x at *
        go_wp2_with fail
        refine (hasS n 8 _ rfl _).mono ?_
        rintro e w1 ⟨rfl, rfl⟩
        cases hb : hasB n 8
        · rw [hb] at HF
          have HE : Hid (gat n 4 = s) := HF
          clear HF hb
          go_wp2
          go_roundw
          case rel => exact ⟨4, by decide, rfl, by rw [HE.out], by first | rfl | trivial⟩
          case measure => simp [intOf]
        · rw [hb] at HF
          by_cases he : s = ⟨#[]⟩
          · have HE : Hid (gat n 4 = s ++ x) := by have := HF.out; rw [if_pos he] at this; exact this
            clear HF hb
            subst he
            go_wp2
            go_roundw
            case rel => exact ⟨4, by decide, rfl, by rw [HE.out], by first | rfl | trivial⟩
            case measure => simp [intOf]
          · have HE : Hid (gat n 4 = s ++ ⟨#[44]⟩ ++ x) := by have := HF.out; rw [if_neg he] at this; exact this
            have hne := ne_empty he
            have hsz : (s ++ ⟨#[44]⟩ : ByteArray).size = s.size + 1 := by rw [ByteArray.size_append]; rfl
            clear HF hb he
            go_wp2
            go_roundw
            case rel => exact ⟨4, by decide, rfl, by rw [HE.out], by first | rfl | trivial⟩
            case measure => simp [intOf]
  · have HN : Hid (nameN n = ⟨#[]⟩) := if_neg h
    have D := decide_eq_false h
    clear h
    go_enter Tryd.func14, Tryd.ntmps14
    go_wp2_with fail
    refine (senseS n false D _).mono ?_
    rintro e w1 ⟨rfl, rfl⟩
    go_wp2
    go_ret
    exact ⟨by rw [HN.out]; rfl, ((Below.refl _ _).alloc (Nat.le_refl _) _).alloc (by simp) _⟩
end Go.Proofs.YtckeffccoghgeaaDoor.J
