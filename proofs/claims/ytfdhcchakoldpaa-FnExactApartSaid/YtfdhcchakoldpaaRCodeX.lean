/-
  Code out of bytes: the contracts of ReadCode, the program's and the specification's.
-/
import Derived.Test.YtfdhcchakoldpaaOwnII
namespace Go.Proofs.Ytfdhcchakoldpaa.I
open Go.RowKit Go.PlainAid
set_option linter.unusedVariables false

/-- the first j instructions of a text -/
def rcL (s : ByteArray) (j : Nat) : List (Int × Int) := (List.range j).map fun i => (bt s (2 * i), bt s (2 * i + 1))
theorem rcL_len (s : ByteArray) (j : Nat) : (rcL s j).length = j := by simp [rcL]
theorem rcL_succ (s : ByteArray) (j : Nat) : rcL s (j + 1) = rcL s j ++ [(bt s (2 * j), bt s (2 * j + 1))] := by simp [rcL, List.range_succ]
def rcV (s : ByteArray) : Bool → List (Int × Int)
  | true => rcL s (s.size / 2)
  | false => []
def RcOk (s : ByteArray) : Prop := s.size % 2 = 0 ∧ s.size ≤ 120
theorem rc_bool (s : ByteArray) : ∃ b : Bool, b = true ↔ RcOk s := by
  by_cases hk : RcOk s
  · exact ⟨true, ⟨fun _ => hk, fun _ => rfl⟩⟩
  · exact ⟨false, ⟨fun h => (by cases h), fun h => absurd h hk⟩⟩
theorem rcV_len {s : ByteArray} {b : Bool} (hb : b = true ↔ RcOk s) : (rcV s b).length ≤ 60 := by
  cases b
  · simp [rcV]
  · have := (hb.1 rfl).2
    simp only [rcV, rcL_len]
    omega
theorem ix_run (s : ByteArray) (k : Nat) (h : k < s.size) (x : Int) (hx : x = k) (w : World) : (Instr.index 9 (.string s) (.int .i64 x)).run Try.prog w = .ok (.int .u8 (bt s k)) w := by
  subst hx
  have hx : 0 ≤ (k : Int) ∧ (k : Int) < s.size := by omega
  rw [run_index_string w 9 _ .i64 (k : Int) Try.underlying9, dif_pos hx, ← get_bt s k h]
  rfl
/-- what an append of an instruction leaves -/
theorem rel_ins {w wr W1 w1 : World} {v v' : Value} {xs : List (Int × Int)} {f s : Int} {n B : Nat} (hW : Below w.heap.size w W1) (hB : B ≤ W1.heap.size) (hwB : w.heap.size ≤ B) (hown : OwnI wr B v xs)
    (hown' : w1.ownsRow B 178 2 v' n (regsV xs ++ [.int .i64 f, .int .i64 s])) (hgrow : W1.grownBy w1 v.ownBlock) (hn : n = xs.length + 1) :
    OwnI w1 B v' (xs ++ [(f, s)]) ∧ Below w.heap.size w w1 := by
  refine ⟨?_, hW.grown hgrow (Nat.le_trans hwB hB) (fun k hk => Nat.le_trans hwB (own_ge hown k hk))⟩
  subst hn
  unfold OwnI
  rw [regsV_append, List.length_append]
  exact hown'

set_option maxRecDepth 100000 in
set_option maxHeartbeats 2000000 in
theorem readcodeS (s : ByteArray) (hs : s.size ≤ 1048576) (b : Bool) (hb : b = true ↔ RcOk s) (w : World) :
    Calls Try.prog 87 #[.string s] w fun e w' => ∃ v, e = .returned (.tuple #[v, .bool b]) ∧ OwnI w' w.heap.size v (rcV s b) ∧ Below w.heap.size w w' := by
  obtain ⟨i0, hi, hz0, hz1, hz2⟩ := info_parts infoR
  have HE : Hid (OwnI (w.alloc (.cells #[] 178)) w.heap.size (.slice (some ⟨w.heap.size, 0, none⟩) 0 0) []) := ownI_empty w
  have HB0 : Hid (Below w.heap.size w (w.alloc (.cells #[] 178))) := (Below.refl _ _).alloc (Nat.le_refl _) _
  cases b
  · have hno : ¬ RcOk s := fun h => by have := hb.2 h; cases this
    unfold RcOk at hno
    clear hb
    by_cases h1 : s.size % 2 = 0
    · have h2 : 120 < s.size := by omega
      have t1 : ((s.size : Int).tmod 2 != 0) = false := by rw [Int.tmod_eq_emod_of_nonneg (by omega)]; simp; omega
      have t2 : ((s.size : Int) % 2 != 0) = false := by simp; omega
      go_enter Try.func87, Try.ntmps87
      go_wp2
      go_ret2
      exact ⟨_, rfl, HE.out, HB0.out⟩
    · have t1 : ((s.size : Int).tmod 2 != 0) = true := by rw [Int.tmod_eq_emod_of_nonneg (by omega)]; simp; omega
      have t2 : ((s.size : Int) % 2 != 0) = true := by simp; omega
      go_enter Try.func87, Try.ntmps87
      go_wp2
      go_ret2
      exact ⟨_, rfl, HE.out, HB0.out⟩
  · obtain ⟨h1, h2⟩ := hb.1 rfl
    clear hb
    obtain ⟨m, hm⟩ : ∃ m, s.size / 2 = m := ⟨_, rfl⟩
    have hsm : s.size = 2 * m := by omega
    have HM : Hid (rcV s true = rcL s m) := by rw [← hm]; rfl
    have t1 : ((s.size : Int).tmod 2 != 0) = false := by rw [Int.tmod_eq_emod_of_nonneg (by omega)]; simp; omega
    have t2 : ((s.size : Int) % 2 != 0) = false := by simp; omega
    clear hm h1
    go_enter Try.func87, Try.ntmps87
    go_wp2
    clear t1 t2
    go_loopg [4, 5] m (fun gk v i wr => ∃ p : Nat, p + 2 * gk = s.size ∧ i = .int .i64 p ∧ Hid (OwnI wr w.heap.size v (rcL s (m - gk))) ∧ Hid (Below w.heap.size w wr))
    case atStart => exact ⟨0, by omega, rfl, by rw [Nat.sub_self]; exact HE, HB0⟩
    case round =>
      clear HE HB0
      obtain ⟨p, hp, rfl, HO, HW⟩ := hrel
      have hsz := HW.out.size
      by_cases hlt : p < s.size
      · have HT : Hid (rcL s (m - (gk - 1)) = rcL s (m - gk) ++ [(bt s p, bt s (p + 1))]) := by
          rw [show m - (gk - 1) = (m - gk) + 1 by omega, rcL_succ, show 2 * (m - gk) = p by omega]; rfl
        have hx1 := ix_run s p hlt (p : Int) rfl
        have hx2 := ix_run s (p + 1) (by omega) ((p : Int) + 1) (by omega)
        have b0 := bt_nonneg s p
        have b1 := bt_le s p
        have b2 := bt_nonneg s (p + 1)
        have b3 := bt_le s (p + 1)
        have hlen : (rcL s (m - gk)).length ≤ 60 := by rw [rcL_len]; omega
        generalize bt s p = f at *
        generalize bt s (p + 1) = q at *
        generalize rcL s (m - gk) = xs at *
        have hown : wr.ownsRow w.heap.size 178 2 _ xs.length (regsV xs) := HO.out
        have hw0 : IntKind.i64.wrap ((p : Int) + 1) = (p : Int) + 1 := wrap_in (by omega) (by omega)
        have hw1 : IntKind.i64.wrap f = f := wrap_in (by omega) (by omega)
        have hw2 : IntKind.i64.wrap q = q := wrap_in (by omega) (by omega)
        go_wp2
        go_region_law (refine step_append_lies _ rfl _ _ _ rfl w.heap.size 178 i0 _ 2 16 Try.underlying173 hi hz0 hz1 hz2 rfl (by omega) _ _ _ rfl ((hown.alloc _).drew) ⟨wr.heap.size, 0, none⟩ 1 1 [.int .i64 f, .int .i64 q] rfl rfl (World.news_of_block (cs := #[.int .i64 f, .int .i64 q]) (t := 178) (fr := (0, 0)) (heap_alloc_new wr _)) (by simp [Value.oneCell']) (by omega) (by unfold maxLen; omega) (by omega) (by simp; omega) (wr.heap.size + 1) (by simp) ?_; intro gg cp w3 hown3 hgrow hat hlt1)
        all_goals
          have R := rel_ins ((HW.out.alloc hsz (.cells #[.int .i64 f, .int .i64 q] 178)).drew) (by simp; omega) (Nat.le_refl _) HO.out hown3 hgrow rfl
          have HO' : Hid (_ ∧ _) := R
          clear R hown3 hgrow hown HW HO hat hlt1 hx1 hx2
          go_wp2
          go_roundg (gk - 1)
          case measure => omega
          case rel => exact ⟨p + 2, by omega, by go_num, by rw [HT.out]; exact HO'.out.1, HO'.out.2⟩
      · have hg0 : gk = 0 := by omega
        subst hg0
        have hO := HO.out
        rw [show m - 0 = m from rfl, ← HM.out] at hO
        have HO' : Hid _ := hO
        clear HO hO
        go_wp2
        go_ret2
        exact ⟨_, rfl, HO'.out, HW.out⟩
end Go.Proofs.Ytfdhcchakoldpaa.I
