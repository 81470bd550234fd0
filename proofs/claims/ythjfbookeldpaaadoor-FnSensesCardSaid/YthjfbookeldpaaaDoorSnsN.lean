/-
  SnsN: the names of what is felt: senses.names of the program, SenseNames of both sides.
-/
import Derived.Test.YthjfbookeldpaaaDoorSns
import Derived.Test.YthjfbookeldpaaaDoorShelf
import Derived.Laws.DeepStrings4
import Derived.Laws.Rows
import Derived.Laws.IdiomStrings
namespace Go.Proofs.YthjfbookeldpaaaDoor
open Go.RowKit Go.PlainAid
set_option linter.unusedVariables false

theorem own_lt {w : World} {B e z n : Nat} {v : Value} {xs : List Value} (h : w.ownsRow B e z v n xs) : ∀ g, v.ownBlock = some g → g < w.heap.size := fun k hk => (h.lt k hk).2

theorem own_ge {w : World} {B e z n : Nat} {v : Value} {xs : List Value} (h : w.ownsRow B e z v n xs) : ∀ g, v.ownBlock = some g → B ≤ g := fun k hk => (h.lt k hk).1

theorem own_keep {w w' : World} {B C e z n : Nat} {v : Value} {xs : List Value} (h : w.ownsRow B e z v n xs) (hb : Below C w w') (hlt : ∀ g, v.ownBlock = some g → g < C) : w'.ownsRow B e z v n xs := by
  refine ⟨h.1, ?_⟩
  rcases h.2 with h2 | ⟨g, cap, cur, rfl, hg, hh, h3⟩
  · exact .inl h2
  · exact .inr ⟨g, cap, cur, rfl, hg, by rw [hb.block g (hlt g rfl)]; exact hh, h3⟩

def strV (l : List ByteArray) : List Value := l.map Value.string

theorem strV_len (l : List ByteArray) : (strV l).length = l.length := List.length_map ..

theorem info9 : (Tryd.prog.info? 9).map (fun i => (i.zero, i.size, i.bytes)) = some (some (.string ⟨#[]⟩), 1, 16) := by kernel_rfl

theorem own_form {w : World} {B n : Nat} {v : Value} {l : List ByteArray} (h : w.ownsRow B 9 1 v n (strV l)) :
    ∃ a cap, v = .slice a n cap ∧ (0 < n → ∃ g, a = some ⟨g, 0, none⟩ ∧ v.ownBlock = some g ∧ ∀ j x, l[j]? = some x → w.cell? ⟨g, j, none⟩ = some (.string x) ∧ w.frozen? ⟨g, j, none⟩ = false) := by
  have h' := h
  have hl : l.length = n := by have := h.1; rw [strV_len] at this; omega
  rcases h.2 with ⟨rfl, e⟩ | ⟨g, cap, cur, rfl, hg, hh, hnc, hcp, hcs, htake⟩
  · exact ⟨none, 0, by rw [e], fun hp => by omega⟩
  · refine ⟨_, cap, rfl, fun _ => ⟨g, rfl, rfl, fun j x hj => ⟨?_, h'.frozenAt j⟩⟩⟩
    have hlt := (List.getElem?_eq_some_iff.1 hj).1
    have := h'.cellAt j (by omega)
    rw [this]
    simp [strV, hj]
theorem rel_str {w W1 w1 wr : World} {v v' : Value} {xs : List ByteArray} {x : ByteArray} {n : Nat} (hW : Below w.heap.size w W1) (hB : w.heap.size ≤ W1.heap.size) (hown : wr.ownsRow w.heap.size 9 1 v xs.length (strV xs))
    (hown' : w1.ownsRow w.heap.size 9 1 v' n (strV xs ++ [.string x])) (hgrow : W1.grownBy w1 v.ownBlock) (hn : n = xs.length + 1) :
    w1.ownsRow w.heap.size 9 1 v' (xs ++ [x]).length (strV (xs ++ [x])) ∧ Below w.heap.size w w1 := by
  refine ⟨?_, hW.grown hgrow hB (own_ge hown)⟩
  subst hn
  rw [show strV (xs ++ [x]) = strV xs ++ [.string x] by simp [strV], List.length_append]
  exact hown'
theorem one_str (wr : World) (x : Value) (a : Addr) (ha : a = ⟨wr.heap.size, 0, none⟩) : ∀ j u, [x][j]? = some u → (wr.alloc (.cells #[x] 9)).cell? (a.add j) = some u := by
  intro j u hj
  subst ha
  match j, hj with
  | 0, hj => simp at hj; subst hj; simp [Addr.add]
theorem own_none (w : World) (B : Nat) : w.ownsRow B 9 1 (.slice none 0 0) ([] : List ByteArray).length (strV []) := World.ownsRow_nil _ _ _ _

def nmL : List ByteArray := [⟨#[98, 108, 111, 99, 107]⟩, ⟨#[97, 105, 114]⟩, ⟨#[100, 111, 111, 114]⟩, ⟨#[112, 111, 119, 101, 114]⟩]
def nmS (r : Nat) : ByteArray := nmL.getD r ⟨#[]⟩
/-- the names of the first k senses that are in it -/
def felt (s : Int) : Nat → List ByteArray
  | 0 => []
  | k + 1 => if bitB s ((2 ^ k : Nat) : Int) then felt s k ++ [nmS k] else felt s k
def nameB (s : Int) : ByteArray := if s = 0 then ⟨#[110, 111, 110, 101]⟩ else ⟨(Lib.join ((felt s 4).map (·.data.toList)) [44]).toArray⟩
def nameN (n : Int) : ByteArray := if 0 ≤ n ∧ n ≤ 15 then nameB n else ⟨#[]⟩
/-- the program's table of names -/
def TabS (w : World) : Prop := ∀ r, r < 4 → w.cell? ⟨0, r, none⟩ = some (.string (nmS r))
theorem tabS_below {w w' : World} (h : TabS w) (hb : Below w.heap.size w w') : TabS w' := fun r hr =>
  (hb.cell (p := ⟨0, r, none⟩) (World.block_lt_of_cell? w _ (h r hr))).trans (h r hr)
theorem felt_len (s : Int) : ∀ k, (felt s k).length ≤ k
  | 0 => Nat.le_refl _
  | k + 1 => by
    have := felt_len s k
    unfold felt
    split
    · simp; omega
    · omega
theorem own_cells {w : World} {B : Nat} {a : Option Addr} {cap : Nat} {l : List ByteArray} (h : w.ownsRow B 9 1 (.slice a l.length cap) l.length (strV l)) (hp : 0 < l.length) :
    ∃ g, a = some ⟨g, 0, none⟩ ∧ g < w.heap.size ∧ l.length ≤ cap ∧ ∀ (j : Nat) x, l[j]? = some x → w.cell? ⟨g, 0 + j, none⟩ = some (.string x) := by
  obtain ⟨a', cap', hv, hc⟩ := own_form h
  obtain ⟨g, rfl, hob, hce⟩ := hc hp
  injection hv with h1 h2 h3
  subst h1 h3
  refine ⟨g, rfl, own_lt h g rfl, ?_, fun j x hj => by rw [Nat.zero_add]; exact (hce j x hj).1⟩
  rcases h.2 with ⟨e, _⟩ | ⟨g', cap', cur, e, hg, hh, hnc, _⟩
  · cases e
  · injection e with e1 e2 e3
    omega
theorem felt_pos : ∀ i : Fin 15, 0 < (felt ((i.val + 1 : Nat) : Int) 4).length := by decide +kernel
theorem felt_fin : ∀ i : Fin 16, (felt (i.val : Int) 4).length ≤ 4 ∧ (Lib.join ((felt (i.val : Int) 4).map (·.data.toList)) [44]).length ≤ 20 := by decide +kernel

set_option maxRecDepth 100000 in
set_option maxHeartbeats 1000000 in
theorem namesI (s : Int) (h0 : 0 ≤ s) (h15 : s ≤ 15) (w : World) (ht : TabS w) : Calls Tryd.prog 18 #[.int .u8 s] w fun e w' => e = .returned (.string (nameB s)) ∧ Below w.heap.size w w' := by
  obtain ⟨i0, hi, hz0, hz1, hz2⟩ := info_parts info9
  by_cases hs : s = 0
  · subst hs
    clear ht
    go_enter Tryd.func18, Tryd.ntmps18
    go_wp2
    go_ret
    exact ⟨rfl, Below.refl _ _⟩
  · have c0 := ht 0 (by decide)
    have c1 := ht 1 (by decide)
    have c2 := ht 2 (by decide)
    have c3 := ht 3 (by decide)
    go_enter Tryd.func18, Tryd.ntmps18
    go_wp2
    clear ht c0 c1 c2 c3
    have hs0 : (s == 0) = false := by simpa using hs
    rw [hs0]
    go_loopw [3, 9] (fun v i wr => ∃ (k : Nat), k ≤ 4 ∧ i = .int .i64 k ∧ wr.ownsRow w.heap.size 9 1 v (felt s k).length (strV (felt s k)) ∧ Below w.heap.size w wr) (fun _ i _ => 4 - (intOf i).toNat)
    case atStart => exact ⟨0, by decide, rfl, own_none _ _, Below.refl _ _⟩
    case round =>
      obtain ⟨k, hk, rfl, hown, hnx⟩ := hrel
      have hsz := hnx.size
      obtain ⟨ao, cap, hv, hcs⟩ := own_form hown
      subst hv
      have hk5 : k = 0 ∨ k = 1 ∨ k = 2 ∨ k = 3 ∨ k = 4 := by omega
      clear hk
      by_cases h4 : k = 4
      · subst h4
        clear hk5 hcs
        obtain ⟨hl4, hl20⟩ : (felt s 4).length ≤ 4 ∧ (Lib.join ((felt s 4).map (·.data.toList)) [44]).length ≤ 20 := by
          have h := felt_fin ⟨s.toNat, by omega⟩
          have e1 : ((s.toNat : Nat) : Int) = s := by omega
          simp only [e1] at h
          exact h
        have hp : 0 < (felt s 4).length := by
          have h := felt_pos ⟨s.toNat - 1, by omega⟩
          have e1 : ((s.toNat - 1 + 1 : Nat) : Int) = s := by omega
          simp only [e1] at h
          exact h
        have HN : Hid (nameB s = ⟨(Lib.join ((felt s 4).map (·.data.toList)) [44]).toArray⟩) := by unfold Hid nameB; rw [if_neg hs]
        obtain ⟨g, rfl, hg, hcap, hce⟩ := own_cells hown hp
        have HC : Hid (∀ (j : Nat) x, (felt s 4)[j]? = some x → wr.cell? ⟨g, 0 + j, none⟩ = some (.string x)) := hce
        have HL : Hid ((Lib.join ((felt s 4).map (·.data.toList)) [44]).length ≤ 20) := hl20
        clear hown hce hl20 h0 h15 hs
        generalize felt s 4 = xs at *
        go_wp2_with fail
        refine (Tryd.strings_Join g 0 cap xs ⟨#[44]⟩ _ HC.out hg (by omega) hcap (by have := HL.out; show (Lib.join _ [44]).length ≤ _; omega)).mono ?_
        rintro e w2 ⟨rfl, hb2⟩
        go_wp2
        go_ret
        exact ⟨by rw [HN.out]; rfl, hnx.trans (hb2.mono hsz)⟩
      · replace hk5 : k = 0 ∨ k = 1 ∨ k = 2 ∨ k = 3 := by omega
        clear h4 hcs
        rcases hk5 with rfl | rfl | rfl | rfl
        · have HF : Hid (felt s 1 = if bitB s 1 then felt s 0 ++ [nmS 0] else felt s 0) := rfl
          have hlen : (felt s 0).length ≤ 0 := felt_len s 0
          have ix : ∀ w, (Instr.index 49 (.agg #[.string (nmS 0), .string (nmS 1), .string (nmS 2), .string (nmS 3)]) (.int .i64 0)).run Tryd.prog w = .ok (.string (nmS 0)) w := fun _ => by kernel_rfl
          generalize felt s 0 = xs at *
          generalize nmS 0 = x at *
          go_wp2_with fail
          refine (bitI s 1 _).mono ?_
          rintro e w1 ⟨rfl, rfl⟩
          cases hb : bitB s 1
          · rw [hb] at HF
            have HE : Hid (felt s 1 = xs) := HF
            clear HF hb
            go_wp2
            go_roundw
            case rel => exact ⟨1, by decide, rfl, by rw [HE.out]; exact hown, hnx⟩
            case measure => simp [intOf]
          · rw [hb] at HF
            have HE : Hid (felt s 1 = xs ++ [x]) := HF
            clear HF hb
            go_wp2_with (at_builtin; refine wpList_append_own _ rfl _ _ 43 rfl w.heap.size 9 i0 (.string ⟨#[]⟩) 1 16 Tryd.underlying43 hi hz0 hz1 hz2 rfl (by decide) _ _ _ rfl (hown.alloc _) ⟨w1.heap.size, 0, none⟩ 1 1 [.string x] rfl rfl ?c1 ?c2 ?c3 ?c4 ?c5 ?_)
            case c1 => exact one_str w1 _ _ rfl
            case c2 => intro u hu; simp at hu; subst hu; rfl
            case c3 => unfold maxLen; omega
            case c4 => first | omega | (simp; done) | (simp; omega)
            case c5 => first | omega | (simp; done) | (simp; omega)
            intro v' w5 hown5 hgrow _
            have R := rel_str (x := x) (hnx.alloc hsz _) (by simp; omega) hown hown5 hgrow rfl
            clear hown5 hgrow hown hnx
            go_wp2
            go_roundw
            case rel => exact ⟨1, by decide, rfl, by rw [HE.out]; exact R.1, R.2⟩
            case measure => simp [intOf]
        · have HF : Hid (felt s 2 = if bitB s 2 then felt s 1 ++ [nmS 1] else felt s 1) := rfl
          have hlen : (felt s 1).length ≤ 1 := felt_len s 1
          have ix : ∀ w, (Instr.index 49 (.agg #[.string (nmS 0), .string (nmS 1), .string (nmS 2), .string (nmS 3)]) (.int .i64 1)).run Tryd.prog w = .ok (.string (nmS 1)) w := fun _ => by kernel_rfl
          generalize felt s 1 = xs at *
          generalize nmS 1 = x at *
          go_wp2_with fail
          refine (bitI s 2 _).mono ?_
          rintro e w1 ⟨rfl, rfl⟩
          cases hb : bitB s 2
          · rw [hb] at HF
            have HE : Hid (felt s 2 = xs) := HF
            clear HF hb
            go_wp2
            go_roundw
            case rel => exact ⟨2, by decide, rfl, by rw [HE.out]; exact hown, hnx⟩
            case measure => simp [intOf]
          · rw [hb] at HF
            have HE : Hid (felt s 2 = xs ++ [x]) := HF
            clear HF hb
            go_wp2_with (at_builtin; refine wpList_append_own _ rfl _ _ 43 rfl w.heap.size 9 i0 (.string ⟨#[]⟩) 1 16 Tryd.underlying43 hi hz0 hz1 hz2 rfl (by decide) _ _ _ rfl (hown.alloc _) ⟨w1.heap.size, 0, none⟩ 1 1 [.string x] rfl rfl ?c1 ?c2 ?c3 ?c4 ?c5 ?_)
            case c1 => exact one_str w1 _ _ rfl
            case c2 => intro u hu; simp at hu; subst hu; rfl
            case c3 => unfold maxLen; omega
            case c4 => first | omega | (simp; done) | (simp; omega)
            case c5 => first | omega | (simp; done) | (simp; omega)
            intro v' w5 hown5 hgrow _
            have R := rel_str (x := x) (hnx.alloc hsz _) (by simp; omega) hown hown5 hgrow rfl
            clear hown5 hgrow hown hnx
            go_wp2
            go_roundw
            case rel => exact ⟨2, by decide, rfl, by rw [HE.out]; exact R.1, R.2⟩
            case measure => simp [intOf]
        · have HF : Hid (felt s 3 = if bitB s 4 then felt s 2 ++ [nmS 2] else felt s 2) := rfl
          have hlen : (felt s 2).length ≤ 2 := felt_len s 2
          have ix : ∀ w, (Instr.index 49 (.agg #[.string (nmS 0), .string (nmS 1), .string (nmS 2), .string (nmS 3)]) (.int .i64 2)).run Tryd.prog w = .ok (.string (nmS 2)) w := fun _ => by kernel_rfl
          generalize felt s 2 = xs at *
          generalize nmS 2 = x at *
          go_wp2_with fail
          refine (bitI s 4 _).mono ?_
          rintro e w1 ⟨rfl, rfl⟩
          cases hb : bitB s 4
          · rw [hb] at HF
            have HE : Hid (felt s 3 = xs) := HF
            clear HF hb
            go_wp2
            go_roundw
            case rel => exact ⟨3, by decide, rfl, by rw [HE.out]; exact hown, hnx⟩
            case measure => simp [intOf]
          · rw [hb] at HF
            have HE : Hid (felt s 3 = xs ++ [x]) := HF
            clear HF hb
            go_wp2_with (at_builtin; refine wpList_append_own _ rfl _ _ 43 rfl w.heap.size 9 i0 (.string ⟨#[]⟩) 1 16 Tryd.underlying43 hi hz0 hz1 hz2 rfl (by decide) _ _ _ rfl (hown.alloc _) ⟨w1.heap.size, 0, none⟩ 1 1 [.string x] rfl rfl ?c1 ?c2 ?c3 ?c4 ?c5 ?_)
            case c1 => exact one_str w1 _ _ rfl
            case c2 => intro u hu; simp at hu; subst hu; rfl
            case c3 => unfold maxLen; omega
            case c4 => first | omega | (simp; done) | (simp; omega)
            case c5 => first | omega | (simp; done) | (simp; omega)
            intro v' w5 hown5 hgrow _
            have R := rel_str (x := x) (hnx.alloc hsz _) (by simp; omega) hown hown5 hgrow rfl
            clear hown5 hgrow hown hnx
            go_wp2
            go_roundw
            case rel => exact ⟨3, by decide, rfl, by rw [HE.out]; exact R.1, R.2⟩
            case measure => simp [intOf]
        · have HF : Hid (felt s 4 = if bitB s 8 then felt s 3 ++ [nmS 3] else felt s 3) := rfl
          have hlen : (felt s 3).length ≤ 3 := felt_len s 3
          have ix : ∀ w, (Instr.index 49 (.agg #[.string (nmS 0), .string (nmS 1), .string (nmS 2), .string (nmS 3)]) (.int .i64 3)).run Tryd.prog w = .ok (.string (nmS 3)) w := fun _ => by kernel_rfl
          generalize felt s 3 = xs at *
          generalize nmS 3 = x at *
          go_wp2_with fail
          refine (bitI s 8 _).mono ?_
          rintro e w1 ⟨rfl, rfl⟩
          cases hb : bitB s 8
          · rw [hb] at HF
            have HE : Hid (felt s 4 = xs) := HF
            clear HF hb
            go_wp2
            go_roundw
            case rel => exact ⟨4, by decide, rfl, by rw [HE.out]; exact hown, hnx⟩
            case measure => simp [intOf]
          · rw [hb] at HF
            have HE : Hid (felt s 4 = xs ++ [x]) := HF
            clear HF hb
            go_wp2_with (at_builtin; refine wpList_append_own _ rfl _ _ 43 rfl w.heap.size 9 i0 (.string ⟨#[]⟩) 1 16 Tryd.underlying43 hi hz0 hz1 hz2 rfl (by decide) _ _ _ rfl (hown.alloc _) ⟨w1.heap.size, 0, none⟩ 1 1 [.string x] rfl rfl ?c1 ?c2 ?c3 ?c4 ?c5 ?_)
            case c1 => exact one_str w1 _ _ rfl
            case c2 => intro u hu; simp at hu; subst hu; rfl
            case c3 => unfold maxLen; omega
            case c4 => first | omega | (simp; done) | (simp; omega)
            case c5 => first | omega | (simp; done) | (simp; omega)
            intro v' w5 hown5 hgrow _
            have R := rel_str (x := x) (hnx.alloc hsz _) (by simp; omega) hown hown5 hgrow rfl
            clear hown5 hgrow hown hnx
            go_wp2
            go_roundw
            case rel => exact ⟨4, by decide, rfl, by rw [HE.out]; exact R.1, R.2⟩
            case measure => simp [intOf]

theorem sNamesI (n : Int) (w : World) (ht : TabS w) : Calls Tryd.prog 9 #[.int .i64 n] w fun e w' => e = .returned (.string (nameN n)) ∧ Below w.heap.size w w' := by
  have HT : Hid (TabS w) := ht
  clear ht
  by_cases h : 0 ≤ n ∧ n ≤ 15
  · have HN : Hid (nameN n = nameB n) := if_pos h
    have e256 : n % 256 = n := by omega
    go_enter Tryd.func9, Tryd.ntmps9
    go_wp2_with fail
    refine (senseI n true (decide_eq_true h) _).mono ?_
    rintro e w1 ⟨rfl, hb1⟩
    go_wp2_with fail
    refine (namesI n h.1 h.2 _ (tabS_below HT.out hb1)).mono ?_
    rintro e w2 ⟨rfl, hb2⟩
    go_wp2
    go_ret
    exact ⟨by rw [HN.out]; rfl, bel_on (Nat.le_refl _) hb1 hb2⟩
  · have HN : Hid (nameN n = ⟨#[]⟩) := if_neg h
    have D := decide_eq_false h
    clear h
    go_enter Tryd.func9, Tryd.ntmps9
    go_wp2_with fail
    refine (senseI n false D _).mono ?_
    rintro e w1 ⟨rfl, hb1⟩
    go_wp2
    go_ret
    exact ⟨by rw [HN.out]; rfl, hb1⟩
end Go.Proofs.YthjfbookeldpaaaDoor
