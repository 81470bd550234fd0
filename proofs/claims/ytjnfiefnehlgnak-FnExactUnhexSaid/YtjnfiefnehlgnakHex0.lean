/-
  The contracts of Hex, the program's and the specification's.
-/
import Derived.Test.YtjnfiefnehlgnakLoop
import Derived.Test.YtjnfiefnehlgnakMath2
import Derived.Deep.AppendLies
import Derived.Deep.RegionLaw
import Derived.Laws.BytesArg
namespace Go.Proofs.Ytjnfiefnehlgnak
open Go.RowKit Plain Go.PlainAid
set_option linter.unusedVariables false

theorem fig25 (x : Nat) (hx : x < 16) (w : World) :
    Calls Try.prog 25 #[.int .i64 x] w fun e w' => e = .returned (.int .u8 (fig x).toNat) ∧ w' = w := by
  by_cases h : x < 10
  · rw [fig_low h]
    go_enter Try.func25, Try.ntmps25
    go_wp2
    go_ret
    exact ⟨by simp, rfl⟩
  · rw [fig_high (by omega) hx]
    go_enter Try.func25, Try.ntmps25
    go_wp2
    go_ret
    exact ⟨by simp; omega, rfl⟩

def figs : ByteArray := ⟨#[48, 49, 50, 51, 52, 53, 54, 55, 56, 57, 97, 98, 99, 100, 101, 102]⟩
theorem figs_at : ∀ x : Nat, x < 16 → figs.data[x]? = some (fig x) := by
  intro x h
  obtain rfl | rfl | rfl | rfl | rfl | rfl | rfl | rfl | rfl | rfl | rfl | rfl | rfl | rfl | rfl | rfl : x = 0 ∨ x = 1 ∨ x = 2 ∨ x = 3 ∨ x = 4 ∨ x = 5 ∨ x = 6 ∨ x = 7 ∨ x = 8 ∨ x = 9 ∨ x = 10 ∨ x = 11 ∨ x = 12 ∨ x = 13 ∨ x = 14 ∨ x = 15 := by omega
  all_goals rfl

/-- a figure's byte read out of the text of all figures -/
theorem idx_run (x : Nat) (h : x < 16) (w : World) : (Instr.index 9 (.string ⟨#[48, 49, 50, 51, 52, 53, 54, 55, 56, 57, 97, 98, 99, 100, 101, 102]⟩) (.int .u8 (x : Int))).run Try.prog w = .ok (.int .u8 (fig x).toNat) w := by
  have hx : 0 ≤ (x : Int) ∧ (x : Int) < (ByteArray.size ⟨#[48, 49, 50, 51, 52, 53, 54, 55, 56, 57, 97, 98, 99, 100, 101, 102]⟩ : Nat) := ⟨by omega, by show (x : Int) < (16 : Nat); omega⟩
  rw [run_index_string w 9 _ .u8 (x : Int) Try.underlying9, dif_pos hx]
  have := figs_at x h
  rw [Array.getElem?_eq_some_iff] at this
  obtain ⟨h1, h2⟩ := this
  congr 3
  rw [← h2]
  rfl

/-- a slice of bytes that is owned, turned into a string: nil or not -/
theorem own_text {wr : World} {B : Nat} {v : Value} {xs : List UInt8} (h : wr.ownsRow B 5 1 v xs.length (bytesV xs)) :
    ∃ a cap, v = .slice a xs.length cap ∧ (convert 34 9 v).run Try.prog wr = .ok (.string ⟨xs.toArray⟩) wr := by
  by_cases h0 : 0 < xs.length
  · obtain ⟨g, cap, hv, hr⟩ := own_string h h0
    exact ⟨_, cap, hv, hr⟩
  · obtain rfl : xs = [] := List.length_eq_zero_iff.1 (by omega)
    rcases h.2 with ⟨rfl, e⟩ | ⟨g, cap, cur, rfl, hg, hh, hnc, hcp, hcs, htake⟩
    · exact ⟨none, 0, rfl, run_convert_bytes_nil (P := Try.prog) (w := wr) 34 5 Try.underlying34 Try.underlying5 0 0 9 Try.underlying9⟩
    · exact ⟨_, cap, rfl, run_convert_bytes_back (P := Try.prog) wr 34 9 5 ⟨g, 0, none⟩ cap [] Try.underlying34 Try.underlying5 Try.underlying9 fun j hj => by simp at hj⟩

/-- what an append of some bytes leaves -/
theorem rel_app {w wr W1 w1 : World} {v v' : Value} {xs bs : List UInt8} {n : Nat} {news : List Value} (hW : Below w.heap.size w W1) (hB : w.heap.size ≤ W1.heap.size) (hown : wr.ownsRow w.heap.size 5 1 v xs.length (bytesV xs))
    (hown' : w1.ownsRow w.heap.size 5 1 v' n (bytesV xs ++ news)) (hgrow : W1.grownBy w1 v.ownBlock) (hn : n = (xs ++ bs).length := by simp) (hnews : news = bytesV bs := by rfl) :
    w1.ownsRow w.heap.size 5 1 v' (xs ++ bs).length (bytesV (xs ++ bs)) ∧ Below w.heap.size w w1 := by
  refine ⟨?_, hW.grown hgrow hB (own_ge hown)⟩
  subst hn hnews
  rw [show bytesV (xs ++ bs) = bytesV xs ++ bytesV bs by simp [bytesV]]
  exact hown'

theorem take_all (s : ByteArray) (k : Nat) (h : ¬ k < s.size) : s.data.toList.take k = s.data.toList :=
  List.take_of_length_le (by rw [Array.length_toList]; show s.size ≤ k; omega)
theorem hex_snoc (s : ByteArray) (k : Nat) (h : k < s.size) : hexL (s.data.toList.take (k + 1)) = hexL (s.data.toList.take k) ++ [fig (s[k].toNat / 16), fig (s[k].toNat % 16)] := by
  rw [← hexL_snoc, List.take_succ_eq_append_getElem (by simpa using h)]; rfl
theorem ix_run (s : ByteArray) (k : Nat) (h : k < s.size) (w : World) : (Instr.index 9 (.string s) (.int .i64 (k : Int))).run Try.prog w = .ok (.int .u8 (s[k].toNat : Int)) w := by
  have hx : 0 ≤ (k : Int) ∧ (k : Int) < s.size := by omega
  rw [run_index_string w 9 _ .i64 (k : Int) Try.underlying9, dif_pos hx]
  rfl
theorem idx_q (c : Nat) (h : c < 256) (w : World) : (Instr.index 9 (.string ⟨#[48, 49, 50, 51, 52, 53, 54, 55, 56, 57, 97, 98, 99, 100, 101, 102]⟩) (.int .u8 ((c : Int) / 16))).run Try.prog w = .ok (.int .u8 (fig (c / 16)).toNat) w := idx_run (c / 16) (by omega) w
theorem idx_r (c : Nat) (h : c < 256) (w : World) : (Instr.index 9 (.string ⟨#[48, 49, 50, 51, 52, 53, 54, 55, 56, 57, 97, 98, 99, 100, 101, 102]⟩) (.int .u8 ((c : Int) % 16))).run Try.prog w = .ok (.int .u8 (fig (c % 16)).toNat) w := idx_run (c % 16) (by omega) w

set_option maxHeartbeats 1000000 in
theorem hx18 (s : ByteArray) (hs : s.size ≤ 20000) (w : World) :
    Calls Try.prog 18 #[.string s] w fun e w' => e = .returned (.tuple #[.string ⟨(hexL s.data.toList).toArray⟩, .bool true]) ∧ Below w.heap.size w w' := by
  obtain ⟨i0, hi, hz0, hz1, hz2⟩ := info_parts info5
  go_enter Try.func18, Try.ntmps18
  go_wp2_with (at_make; refine wpList_make_own _ rfl _ _ 34 rfl w.heap.size 5 i0 (.int .u8 0) 1 Try.underlying34 hi hz0 hz1 .i64 .i64 _ (2 * s.size) rfl rfl (by omega) (by rw [hz2]; omega) (by unfold maxLen; omega) (Nat.le_refl _) ?_; intro w1 hown hgrow)
  have hb1 : Below w.heap.size w w1 := (Below.refl _ _).grown hgrow (Nat.le_refl _) (fun k h => by cases h)
  clear hgrow
  go_loopw [4, 5] (fun v i wr => ∃ k : Nat, k ≤ s.size ∧ i = .int .i64 k ∧ wr.ownsRow w.heap.size 5 1 v (hexL (s.data.toList.take k)).length (bytesV (hexL (s.data.toList.take k))) ∧ Below w.heap.size w wr) (fun _ i _ => s.size - (intOf i).toNat)
  case atStart => exact ⟨0, Nat.zero_le _, rfl, hown, hb1⟩
  case round =>
    clear hown hb1
    obtain ⟨k, hk, rfl, hown, hnx⟩ := hrel
    have hsz := hnx.size
    have hlen : (hexL (s.data.toList.take k)).length ≤ 40000 := by rw [hexL_len, List.length_take]; omega
    by_cases hlt : k < s.size
    · have hR := hex_snoc s k hlt
      obtain ⟨c, hc⟩ : ∃ c : UInt8, c = s[k] := ⟨_, rfl⟩
      rw [← hc] at hR
      have HR : Hid (hexL (s.data.toList.take (k + 1)) = hexL (s.data.toList.take k) ++ [fig (c.toNat / 16), fig (c.toNat % 16)]) := hR
      have hix := ix_run s k hlt
      rw [← hc] at hix
      have h256 := c.toNat_lt
      generalize hexL (s.data.toList.take k) = xs at *
      clear hc hR
      generalize hcn : c.toNat = cn at *
      have hq := idx_q cn (by omega)
      have hr := idx_r cn (by omega)
      go_wp2
      have hw1 : IntKind.u8.wrap ((cn : Int) / 16) = (cn : Int) / 16 := IntWalk.u8_in _ (by omega)
      have hw2 : (cn : Int).tmod 16 = (cn : Int) % 16 := Int.tmod_eq_emod_of_nonneg (by omega)
      go_region_law (refine step_append_lies _ (by rfl) _ _ _ (by rfl) w.heap.size 5 i0 _ 1 1 Try.underlying34 hi hz0 hz1 hz2 rfl (by omega) _ _ _ (by rfl) ((hown.alloc _).drew) ⟨wr.heap.size, 0, none⟩ 2 2 [.int .u8 (fig (cn / 16)).toNat, .int .u8 (fig (cn % 16)).toNat] (by rfl) (by rfl) (World.news_of_block (cs := #[.int .u8 (fig (cn / 16)).toNat, .int .u8 (fig (cn % 16)).toNat]) (t := 5) (fr := (0, 0)) (heap_alloc_new wr _)) (by simp [Value.oneCell']) (by omega) (by unfold maxLen; omega) (by omega) (by simp; omega) (wr.heap.size + 1) (by simp) ?_; intro gg cap w1 hown1 hgrow hat hlt1)
      all_goals
        have R := rel_app (bs := [fig (cn / 16), fig (cn % 16)]) (((hnx.alloc hsz (.cells #[.int .u8 (fig (cn / 16)).toNat, .int .u8 (fig (cn % 16)).toNat] 5))).drew) (by simp; omega) hown hown1 hgrow
        clear hown hown1 hgrow hat hlt1 hq hr hw1 hw2 hix
        go_wp2
        go_roundw
        case rel => exact ⟨k + 1, by omega, by go_num, by rw [HR.out]; exact R.1, R.2⟩
        case measure => simp [intOf]; omega
    · have hks : k = s.size := by omega
      obtain ⟨xs, hxs⟩ : ∃ xs, xs = hexL s.data.toList := ⟨_, rfl⟩
      have e : hexL (s.data.toList.take k) = xs := by rw [hxs, take_all s k hlt]
      rw [e] at hown hlen
      have HX : Hid (xs = hexL s.data.toList) := hxs
      obtain ⟨ao, cap, hv, hcv⟩ := own_text hown
      clear hxs e hks hown
      subst hv
      go_wp2
      go_ret2
      exact ⟨by rw [← HX.out]; rfl, hnx⟩
end Go.Proofs.Ytjnfiefnehlgnak
