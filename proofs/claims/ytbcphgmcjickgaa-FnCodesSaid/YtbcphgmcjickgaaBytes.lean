/-
  Lists of bytes that a call owns; the bytes of code.
-/
import Derived.Test.YtbcphgmcjickgaaCode
namespace Go.Proofs.Ytbcphgmcjickgaa
open Go.RowKit Go.PlainAid
set_option linter.unusedVariables false

def bytesV (l : List UInt8) : List Value := l.map (fun b => Value.int .u8 (b.toNat : Int))
theorem info5 : (Try.prog.info? 5).map (fun i => (i.zero, i.size, i.bytes)) = some (some (.int .u8 0), 1, 1) := by kernel_rfl
theorem own_empty5 (w : World) : (w.alloc (.cells #[] 5)).ownsRow w.heap.size 5 1 (.slice (some ⟨w.heap.size, 0, none⟩) 0 0) 0 (bytesV []) :=
  ⟨rfl, Or.inr ⟨_, 0, #[], rfl, Nat.le_refl _, by show (w.heap.push _)[w.heap.size]? = _; simp, Nat.le_refl _, by decide, rfl, rfl⟩⟩
theorem two_cell5 (wr : World) (x y : Value) (a : Addr) (ha : a = ⟨wr.heap.size, 0, none⟩) : ∀ j u, [x, y][j]? = some u → (wr.alloc (.cells #[x, y] 5)).cell? (a.add j) = some u := by
  intro j u hj
  subst ha
  match j, hj with
  | 0, hj => simp at hj; subst hj; simp [Addr.add]
  | 1, hj => simp at hj; subst hj; simp [Addr.add]
theorem one_cell5 (wr : World) (x : Value) (a : Addr) (ha : a = ⟨wr.heap.size, 0, none⟩) : ∀ j u, [x][j]? = some u → (wr.alloc (.cells #[x] 5)).cell? (a.add j) = some u := by
  intro j u hj
  subst ha
  match j, hj with
  | 0, hj => simp at hj; subst hj; simp [Addr.add]
/-- a slice of bytes that is owned, turned into a string: nil or not -/
theorem own_text {wr : World} {B : Nat} {v : Value} {xs : List UInt8} (h : wr.ownsRow B 5 1 v xs.length (bytesV xs)) :
    ∃ a cap, v = .slice a xs.length cap ∧ (convert 22 9 v).run Try.prog wr = .ok (.string ⟨xs.toArray⟩) wr := by
  have h' := h
  rcases h.2 with ⟨rfl, e⟩ | ⟨g, cap, cur, rfl, hg, hh, hnc, hcp, hcs, htake⟩
  · obtain rfl : xs = [] := List.length_eq_zero_iff.1 e
    exact ⟨none, 0, rfl, run_convert_bytes_nil (P := Try.prog) (w := wr) 22 5 Try.underlying22 Try.underlying5 0 0 9 Try.underlying9⟩
  · refine ⟨_, cap, rfl, run_convert_bytes_back (P := Try.prog) wr 22 9 5 ⟨g, 0, none⟩ cap xs Try.underlying22 Try.underlying5 Try.underlying9 fun j hj => ?_⟩
    rw [Addr.add_lit, Nat.zero_add, h'.cellAt j (by omega)]
    simp [bytesV, hj]
/-- what an append of some bytes leaves -/
theorem rel_app {w wr W1 w1 : World} {v v' : Value} {xs bs : List UInt8} {n B : Nat} {news : List Value} (hW : Below w.heap.size w W1) (hB : B ≤ W1.heap.size) (hwB : w.heap.size ≤ B) (hown : wr.ownsRow B 5 1 v xs.length (bytesV xs))
    (hown' : w1.ownsRow B 5 1 v' n (bytesV xs ++ news)) (hgrow : W1.grownBy w1 v.ownBlock) (hn : n = (xs ++ bs).length) (hnews : news = bytesV bs) :
    w1.ownsRow B 5 1 v' (xs ++ bs).length (bytesV (xs ++ bs)) ∧ Below w.heap.size w w1 := by
  refine ⟨?_, hW.grown hgrow (Nat.le_trans hwB hB) (fun k hk => Nat.le_trans hwB (own_ge hown k hk))⟩
  subst hn hnews
  rw [show bytesV (xs ++ bs) = bytesV xs ++ bytesV bs by simp [bytesV]]
  exact hown'

def bOf (x : Int) : UInt8 := UInt8.ofNat x.toNat
theorem bOf_nat {x : Int} (h : isB x) : ((bOf x).toNat : Int) = x := by
  unfold isB at h
  unfold bOf
  rw [UInt8.toNat_ofNat']
  omega
theorem bOf_back (c : UInt8) : bOf (c.toNat : Int) = c := by
  unfold bOf
  rw [Int.toNat_natCast, UInt8.ofNat_toNat]
/-- the bytes of code -/
def codeB : List (Int × Int) → List UInt8
  | [] => []
  | r :: t => bOf r.1 :: bOf r.2 :: codeB t
theorem codeB_len : ∀ rl : List (Int × Int), (codeB rl).length = 2 * rl.length
  | [] => rfl
  | r :: t => by simp [codeB, codeB_len t]; omega
theorem codeB_app : ∀ x y : List (Int × Int), codeB (x ++ y) = codeB x ++ codeB y
  | [], y => rfl
  | r :: t, y => by simp [codeB, codeB_app t y]
theorem codeB_take {rl : List (Int × Int)} {j : Nat} (h : j < rl.length) : codeB (rl.take (j + 1)) = codeB (rl.take j) ++ [bOf rl[j].1, bOf rl[j].2] := by
  rw [List.take_succ_eq_append_getElem h, codeB_app]; rfl
theorem codeB_all {rl : List (Int × Int)} {n : Nat} (h : rl.length = n) : codeB (rl.take n) = codeB rl := by rw [List.take_of_length_le (by omega)]
theorem two_news {f s : Int} (hf : isB f) (hs : isB s) : [Value.int .u8 f, .int .u8 s] = bytesV [bOf f, bOf s] := by
  simp [bytesV, bOf_nat hf, bOf_nat hs]
/-- what CodeText answers -/
def ctV (rl : List (Int × Int)) : Bool → Value
  | true => .tuple #[.string ⟨(codeB rl).toArray⟩, .bool true]
  | false => .tuple #[.string ⟨#[]⟩, .bool false]

set_option maxHeartbeats 2000000 in
theorem codetextI (a : Option Addr) (rl : List (Int × Int)) (n cap : Nat) (b : Bool) (hl : rl.length = n) (hn : n ≤ 9223372036854775807) (hb : b = true ↔ CodeR rl) (w : World) (hr : RdR w a rl) :
    Calls Try.prog 10 #[.slice a n cap] w fun e w' => e = .returned (ctV rl b) ∧ Below w.heap.size w w' := by
  obtain ⟨i0, hi, hz0, hz1, hz2⟩ := info_parts info5
  cases b
  · go_enter Try.func10, Try.ntmps10
    go_wp2_with fail
    refine (codeokI a rl n cap false hl hn hb _ hr).mono ?_
    rintro e w1 ⟨rfl, hb1⟩
    have HW1 : Hid (Below w.heap.size w w1) := hb1
    clear hb1 hr hb
    go_wp2
    go_ret2
    exact ⟨rfl, HW1.out⟩
  · have HC : Hid (CodeR rl) := hb.1 rfl
    have HL : Hid (rl.length = n) := hl
    have h60 : n ≤ 60 := by have := HC.out.1; omega
    have HR : Hid (RdR w a rl) := hr
    clear hl hr hb
    go_enter Try.func10, Try.ntmps10
    go_wp2_with fail
    refine (codeokI a rl n cap true HL.out hn ⟨fun _ => HC.out, fun _ => rfl⟩ _ HR.out).mono ?_
    rintro e w1 ⟨rfl, hb1⟩
    have HW1 : Hid (Below w.heap.size w w1) := hb1
    have hr1 : RdR w1 a rl := HR.out.keep hb1 (Nat.le_refl _)
    have s1 := hb1.size
    clear hb1 HR
    by_cases hp : 0 < n
    · obtain ⟨g, off, rfl, hc⟩ := hr1 (by have := HL.out; omega)
      have HCC : Hid (∀ j (h : j < rl.length), w1.cell? ⟨g, off + j * 2, none⟩ = some (.int .i64 rl[j].1) ∧ w1.cell? ⟨g, off + j * 2 + 1, none⟩ = some (.int .i64 rl[j].2)) := hc
      have hgl : g < w1.heap.size := World.block_lt_of_cell? w1 ⟨g, off + 0 * 2, none⟩ (hc 0 (by have := HL.out; omega)).1
      clear hr1 hc
      go_wp2_with (at_make; refine wpList_make_own _ rfl _ _ 22 rfl w1.heap.size 5 i0 (.int .u8 0) 1 Try.underlying22 hi hz0 hz1 .i64 .i64 _ (2 * n) rfl rfl (by omega) (by rw [hz2]; omega) (by unfold maxLen; omega) (Nat.le_refl _) ?_; intro w2 hown hgrow)
      have HB2 : Hid (Below w1.heap.size w1 w2) := (Below.refl _ _).grown hgrow (Nat.le_refl _) (fun k h => by cases h)
      clear hgrow
      go_loopg [4, 16] n (fun gk v i wr => ∃ j : Nat, j + gk = n ∧ i = .int .i64 j ∧ Hid (wr.ownsRow w1.heap.size 5 1 v (codeB (rl.take j)).length (bytesV (codeB (rl.take j)))) ∧ Hid (Below w1.heap.size w1 wr))
      case atStart => exact ⟨0, by omega, rfl, hown, HB2⟩
      case round =>
        clear hown HB2
        obtain ⟨j, hj, rfl, HO, HW⟩ := hrel
        have hsz := HW.out.size
        by_cases hlt : j < n
        · have hjl : j < rl.length := by have := HL.out; omega
          have c0 := HCC.out j hjl
          have c1 := (HW.out.cell (p := ⟨g, off + j * 2, none⟩) hgl).trans c0.1
          have c2 := (HW.out.cell (p := ⟨g, off + j * 2 + 1, none⟩) hgl).trans c0.2
          have HT := codeB_take hjl
          have hf := (HC.out.2 j hjl).1
          have hs := (HC.out.2 j hjl).2
          clear c0
          generalize rl[j].1 = f at *
          generalize rl[j].2 = s at *
          have HT' : Hid (codeB (rl.take (j + 1)) = codeB (rl.take j) ++ [bOf f, bOf s]) := HT
          have HNW : Hid (_ = _) := two_news hf hs
          have hlen : (codeB (rl.take j)).length ≤ 120 := by rw [codeB_len, List.length_take]; omega
          have hown := HO.out
          clear HT HO
          generalize codeB (rl.take j) = xs at *
          obtain ⟨f0, f1⟩ := hf
          obtain ⟨q0, q1⟩ := hs
          go_wp2_with (at_builtin; refine wpList_append_own _ rfl _ _ 22 rfl w1.heap.size 5 i0 (.int .u8 0) 1 1 Try.underlying22 hi hz0 hz1 hz2 rfl (by decide) _ _ _ rfl ((hown.alloc _).alloc _) ⟨wr.heap.size + 1, 0, none⟩ 2 2 [.int .u8 f, .int .u8 s] rfl rfl ?c1 ?c2 ?c3 ?c4 ?c5 ?_)
          case c1 => exact two_cell5 (wr.alloc _) _ _ _ (by simp)
          case c2 => intro u hu; simp at hu; rcases hu with rfl | rfl <;> rfl
          case c3 => unfold maxLen; omega
          case c4 => omega
          case c5 => simp; omega
          intro v' w3 hown3 hgrow _
          have R := rel_app (bs := [bOf f, bOf s]) ((HW.out.alloc hsz _).alloc (by simp; omega) _) (by simp; omega) (Nat.le_refl _) hown hown3 hgrow (by simp) HNW.out
          have HO' : Hid (_ ∧ _) := R
          clear R hown3 hgrow hown HW c1 c2
          go_wp2
          go_roundg (gk - 1)
          case measure => omega
          case rel => exact ⟨j + 1, by omega, by go_num, by rw [HT'.out]; exact HO'.out.1, HO'.out.2⟩
        · obtain rfl : j = n := by omega
          have hown := HO.out
          rw [codeB_all HL.out] at hown
          obtain ⟨xs, hxs⟩ : ∃ xs, codeB rl = xs := ⟨_, rfl⟩
          have HX : Hid (codeB rl = xs) := hxs
          rw [hxs] at hown
          obtain ⟨ao, cp, hv, hcv⟩ := own_text hown
          have HW2 : Hid (Below w.heap.size w wr) := HW1.out.trans (HW.out.mono HW1.out.size)
          clear HO hown hxs HW HW1
          subst hv
          go_wp2
          go_ret2
          exact ⟨by unfold ctV; rw [HX.out]; rfl, HW2.out⟩
    · obtain rfl : n = 0 := by omega
      have HX : Hid (codeB rl = []) := by have := HL.out; rw [List.length_eq_zero_iff.1 this]; rfl
      clear hr1
      go_wp2_with (at_make; refine wpList_make_own _ rfl _ _ 22 rfl w1.heap.size 5 i0 (.int .u8 0) 1 Try.underlying22 hi hz0 hz1 .i64 .i64 _ 0 rfl rfl (by omega) (by rw [hz2]; omega) (by unfold maxLen; omega) (Nat.le_refl _) ?_; intro w2 hown hgrow)
      have HW2 : Hid (Below w.heap.size w w2) := HW1.out.trans (((Below.refl _ _).grown hgrow (Nat.le_refl _) (fun k h => by cases h)).mono HW1.out.size)
      obtain ⟨ao, cp, hv, hcv⟩ := own_text (xs := []) hown
      clear hgrow hown HW1
      go_rounds 1
      go_wp2
      go_ret2
      exact ⟨by unfold ctV; rw [HX.out]; rfl, HW2.out⟩
end Go.Proofs.Ytbcphgmcjickgaa
