/-
  The contract of Hex, the specification's.
-/
import Derived.Test.YtjnfiefnehlgnakHex0
namespace Go.Proofs.Ytjnfiefnehlgnak
open Go.RowKit Plain Go.PlainAid
set_option linter.unusedVariables false

theorem fig25' (X : Int) (h0 : 0 ≤ X) (h : X < 16) (w : World) : Calls Try.prog 25 #[.int .i64 X] w fun e w' => e = .returned (.int .u8 (fig X.toNat).toNat) ∧ w' = w := by
  obtain ⟨n, rfl⟩ := Int.eq_ofNat_of_zero_le h0
  exact fig25 n (by omega) w
theorem fig25q (c : Nat) (h : c < 256) (w : World) : Calls Try.prog 25 #[.int .i64 ((c : Int) / 16)] w fun e w' => e = .returned (.int .u8 (fig (c / 16)).toNat) ∧ w' = w := fig25 (c / 16) (by omega) w
theorem fig25r (c : Nat) (h : c < 256) (w : World) : Calls Try.prog 25 #[.int .i64 ((c : Int) % 16)] w fun e w' => e = .returned (.int .u8 (fig (c % 16)).toNat) ∧ w' = w := fig25 (c % 16) (by omega) w

set_option maxHeartbeats 1000000 in
theorem hx17 (s : ByteArray) (hs : s.size ≤ 20000) (w : World) :
    Calls Try.prog 17 #[.string s] w fun e w' => e = .returned (.tuple #[.string ⟨(hexL s.data.toList).toArray⟩, .bool true]) ∧ Below w.heap.size w w' := by
  obtain ⟨i0, hi, hz0, hz1, hz2⟩ := info_parts info5
  go_enter Try.func17, Try.ntmps17
  have how := own_empty w
  go_wp2
  go_loopw [4, 5] (fun v i wr => ∃ k : Nat, k ≤ s.size ∧ i = .int .i64 k ∧ wr.ownsRow w.heap.size 5 1 v (hexL (s.data.toList.take k)).length (bytesV (hexL (s.data.toList.take k))) ∧ Below w.heap.size w wr) (fun _ i _ => s.size - (intOf i).toNat)
  case atStart => exact ⟨0, Nat.zero_le _, rfl, how, (Below.refl _ _).alloc (Nat.le_refl _) _⟩
  case round =>
    clear how
    obtain ⟨k, hk, rfl, hown, hnx⟩ := hrel
    have hsz := hnx.size
    have hlen : (hexL (s.data.toList.take k)).length ≤ 40000 := by rw [hexL_len, List.length_take]; omega
    by_cases hlt : k < s.size
    · have hR := hex_snoc s k hlt
      obtain ⟨c, hc⟩ : ∃ c : UInt8, c = s[k] := ⟨_, rfl⟩
      rw [← hc] at hR
      have HR : Hid (hexL (s.data.toList.take (k + 1)) = hexL (s.data.toList.take k) ++ [fig (c.toNat / 16), fig (c.toNat % 16)]) := hR
      have hix := ix_run s k hlt
      rw [← hc] at hix
      have h256 := c.toNat_lt
      generalize hexL (s.data.toList.take k) = xs at *
      clear hc hR
      generalize hcn : c.toNat = cn at *
      go_wp2
      have hw2 : (cn : Int).tmod 16 = (cn : Int) % 16 := Int.tmod_eq_emod_of_nonneg (by omega)
      have hn1 : ((cn : Int) / 16).toNat = cn / 16 := by omega
      have hn2 : ((cn : Int) % 16).toNat = cn % 16 := by omega
      have hw3 : IntKind.i64.wrap (cn : Int) = (cn : Int) := IntWalk.i64_in _ (by omega)
      have hw1 : IntKind.i64.wrap ((cn : Int) / 16) = (cn : Int) / 16 := IntWalk.i64_in _ (by omega)
      have hw4 : (cn : Int).tdiv 16 = (cn : Int) / 16 := Int.tdiv_eq_ediv_of_nonneg (by omega)
      go_region_held3 (fun _ => True) (trivial) (first | (go_at_call 25; refine (fig25' _ (by omega) (by omega) _).mono ?_; rintro e w2 ⟨rfl, rfl⟩) | (refine step_append_lies ((wr.alloc (.cells #[.int .u8 (fig (cn / 16)).toNat, .int .u8 (fig (cn % 16)).toNat] 5)).drew) rfl (.tmp 16) (.tmp 29) 34 rfl w.heap.size 5 i0 (.int .u8 0) 1 1 Try.underlying34 hi hz0 hz1 hz2 rfl (by omega) u4 xs.length (bytesV xs) rfl ((hown.alloc (.cells #[.int .u8 (fig (cn / 16)).toNat, .int .u8 (fig (cn % 16)).toNat] 5)).drew) ⟨wr.heap.size, 0, none⟩ 2 2 [.int .u8 (fig (cn / 16)).toNat, .int .u8 (fig (cn % 16)).toNat] rfl rfl (World.news_of_block (cs := #[.int .u8 (fig (cn / 16)).toNat, .int .u8 (fig (cn % 16)).toNat]) (t := 5) (fr := (0, 0)) (heap_alloc_new wr (.cells #[.int .u8 (fig (cn / 16)).toNat, .int .u8 (fig (cn % 16)).toNat] 5))) (by simp [Value.oneCell']) (by omega) (by unfold maxLen; omega) (by omega) (by simp; omega) (wr.heap.size + 1) (by simp) ?_; intro gg cap w1 hown1 hgrow hat hlt1))
      all_goals
        have R := rel_app (bs := [fig (cn / 16), fig (cn % 16)]) (((hnx.alloc hsz (.cells #[.int .u8 (fig (cn / 16)).toNat, .int .u8 (fig (cn % 16)).toNat] 5))).drew) (by simp; omega) hown hown1 hgrow
        clear hown hown1 hgrow hat hlt1 hw1 hw2 hw3 hw4 hix
        go_wp2
        go_roundw
        case rel => exact ⟨k + 1, by omega, by go_num, by rw [HR.out]; exact R.1, R.2⟩
        case measure => simp [intOf]; omega
    · have hks : k = s.size := by omega
      obtain ⟨xs, hxs⟩ : ∃ xs, xs = hexL s.data.toList := ⟨_, rfl⟩
      have e : hexL (s.data.toList.take k) = xs := by rw [hxs, take_all s k hlt]
      rw [e] at hown hlen
      have HX : Hid (xs = hexL s.data.toList) := hxs
      obtain ⟨ao, cap, hv, hcv⟩ := own_text hown
      clear hxs e hks hown
      subst hv
      go_wp2
      go_ret2
      exact ⟨by rw [← HX.out]; rfl, hnx⟩

theorem nohx17 (s : ByteArray) (hs : 20000 < s.size) (w : World) :
    Calls Try.prog 17 #[.string s] w fun e w' => e = .returned (.tuple #[.string ⟨#[]⟩, .bool false]) ∧ Below w.heap.size w w' := by
  go_enter Try.func17, Try.ntmps17
  go_wp2
  go_ret2
  exact ⟨rfl, Below.refl _ _⟩
theorem nohx18 (s : ByteArray) (hs : 20000 < s.size) (w : World) :
    Calls Try.prog 18 #[.string s] w fun e w' => e = .returned (.tuple #[.string ⟨#[]⟩, .bool false]) ∧ Below w.heap.size w w' := by
  go_enter Try.func18, Try.ntmps18
  go_wp2
  go_ret2
  exact ⟨rfl, Below.refl _ _⟩
end Go.Proofs.Ytjnfiefnehlgnak
