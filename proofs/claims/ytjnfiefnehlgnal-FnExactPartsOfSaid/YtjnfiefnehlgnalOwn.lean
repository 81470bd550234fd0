/-
  Lists of texts that a call owns; the contracts of the law's own helpers: the text of a mark, marking a list, asking whether the marks are held, comparing two lists.
-/
import Derived.Test.YtjnfiefnehlgnalChecked
import Derived.Test.YtjnfiefnehlgnalMath
import Derived.WalkKit
import Derived.ProofKit
import Derived.Handy
import Derived.LoopTactic
import Derived.Laws.IdiomStrings
import Derived.WalkSmall
import Derived.Deep.RegionHeld3
import Derived.Deep.QuietTactic
import Derived.BigQuiet
namespace Go.Proofs.Ytjnfiefnehlgnal
open Go.RowKit Plain Go.PlainAid
set_option linter.unusedVariables false

def strV (l : List ByteArray) : List Value := l.map Value.string
theorem strV_len (l : List ByteArray) : (strV l).length = l.length := List.length_map ..
theorem info9 : (Try.prog.info? 9).map (fun i => (i.zero, i.size, i.bytes)) = some (some (.string ⟨#[]⟩), 1, 16) := by kernel_rfl

/-- what is owned lies where the heap has a block -/
theorem own_lt {w : World} {B e n : Nat} {v : Value} {xs : List Value} (h : w.ownsRow B e 1 v n xs) : ∀ g, v.ownBlock = some g → g < w.heap.size := by
  intro k hk
  rcases h.2 with ⟨rfl, _⟩ | ⟨g, cap, cur, rfl, hg, hh, _⟩
  · simp [Value.ownBlock] at hk
  · simp [Value.ownBlock] at hk
    subst hk
    rcases Nat.lt_or_ge g w.heap.size with h' | h'
    · exact h'
    · rw [Array.getElem?_eq_none h'] at hh; cases hh
theorem own_ge {wr : World} {B e n : Nat} {v : Value} {xs : List Value} (h : wr.ownsRow B e 1 v n xs) : ∀ k, v.ownBlock = some k → B ≤ k := by
  intro k hk
  rcases h.2 with ⟨rfl, _⟩ | ⟨g, cap, cur, rfl, hg, _⟩
  · simp [Value.ownBlock] at hk
  · simp [Value.ownBlock] at hk; omega
/-- what lies below the line stays owned -/
theorem own_keep {w w' : World} {B C e n : Nat} {v : Value} {xs : List Value} (h : w.ownsRow B e 1 v n xs) (hb : Below C w w') (hlt : ∀ g, v.ownBlock = some g → g < C) : w'.ownsRow B e 1 v n xs := by
  refine ⟨h.1, ?_⟩
  rcases h.2 with h2 | ⟨g, cap, cur, rfl, hg, hh, h3⟩
  · exact .inl h2
  · exact .inr ⟨g, cap, cur, rfl, hg, by rw [hb.block g (hlt g rfl)]; exact hh, h3⟩
theorem own_mono {w : World} {B C e n : Nat} {v : Value} {xs : List Value} (h : w.ownsRow B e 1 v n xs) (hC : C ≤ B) : w.ownsRow C e 1 v n xs := by
  refine ⟨h.1, ?_⟩
  rcases h.2 with h2 | ⟨g, cap, cur, rfl, hg, h3⟩
  · exact .inl h2
  · exact .inr ⟨g, cap, cur, rfl, by omega, h3⟩
/-- what an owned list looks like, and its cells -/
theorem own_form {w : World} {B n : Nat} {v : Value} {l : List ByteArray} (h : w.ownsRow B 9 1 v n (strV l)) :
    ∃ a cap, v = .slice a n cap ∧ (0 < n → ∃ g, a = some ⟨g, 0, none⟩ ∧ v.ownBlock = some g ∧ ∀ j x, l[j]? = some x → w.cell? ⟨g, j, none⟩ = some (.string x) ∧ w.frozen? ⟨g, j, none⟩ = false) := by
  have h' := h
  have hl : l.length = n := by have := h.1; rw [strV_len] at this; omega
  rcases h.2 with ⟨rfl, e⟩ | ⟨g, cap, cur, rfl, hg, hh, hnc, hcp, hcs, htake⟩
  · exact ⟨none, 0, by rw [e], fun hp => by omega⟩
  · refine ⟨_, cap, rfl, fun _ => ⟨g, rfl, rfl, fun j x hj => ⟨?_, h'.frozenAt j⟩⟩⟩
    have hlt := (List.getElem?_eq_some_iff.1 hj).1
    have := h'.cellAt j (by omega)
    rw [this]
    simp [strV, hj]

theorem one_text (b : UInt8) (w : World) : (convert 31 9 (.slice (some ⟨w.heap.size, 0, none⟩) 1 1)).run Try.prog (w.alloc (.cells #[.int .u8 (b.toNat : Int)] 5)) = .ok (.string ⟨[b].toArray⟩) (w.alloc (.cells #[.int .u8 (b.toNat : Int)] 5)) :=
  run_convert_bytes_back (P := Try.prog) _ 31 9 5 ⟨w.heap.size, 0, none⟩ 1 [b] Try.underlying31 Try.underlying5 Try.underlying9 (fun j hj => by
    obtain rfl : j = 0 := by simpa using hj
    simp [Addr.add])
theorem cat_one (b : UInt8) (acc : List UInt8) : (⟨#[b]⟩ : ByteArray) ++ ⟨acc.toArray⟩ = ⟨(b :: acc).toArray⟩ := by
  apply ByteArray.ext
  simp
theorem acc_size (acc : List UInt8) : (ByteArray.mk acc.toArray).size = acc.length := by
  show acc.toArray.size = _
  exact List.size_toArray

set_option maxHeartbeats 400000 in
theorem mt13 (k : Nat) (h0 : 0 < k) (hk : k ≤ 1000000) (w : World) :
    Calls Try.prog 13 #[.int .i64 k] w fun e w' => e = .returned (.string (mk k)) ∧ Below w.heap.size w w' := by
  go_enter Try.func13, Try.ntmps13
  go_wp2
  go_loopw [0, 3] (fun nv sv wr => ∃ (f u : Nat) (acc : List UInt8), nv = .int .i64 u ∧ sv = .string ⟨acc.toArray⟩ ∧ u ≤ 1000000 ∧ acc.length + f = 20 ∧ u ≤ f * 1000000 ∧ Hid (u < 10 ^ f) ∧ Hid (mkF f u acc = mkF 20 k []) ∧ Below w.heap.size w wr) (fun nv _ _ => (intOf nv).toNat)
  case atStart => exact ⟨20, k, [], rfl, rfl, hk, by simp, by omega, (show Hid _ from Nat.lt_of_le_of_lt hk (by decide)), (show Hid _ from rfl), Below.refl _ _⟩
  case round =>
    obtain ⟨f, u, acc, rfl, rfl, hu, hl, _, HP, HD, hnx⟩ := hrel
    have hsz : (ByteArray.mk acc.toArray).size ≤ 20 := by rw [acc_size]; omega
    by_cases hu0 : u = 0
    · subst hu0
      have HE : Hid (acc = mkF 20 k []) := by have := HD.out; rw [mkF_zero] at this; exact this
      go_wp2
      go_ret
      exact ⟨by unfold mk; rw [← HE.out]; exact congrArg (fun x => Ending.returned (Value.string x)) (cat_one 109 acc), hnx⟩
    · have hpos : 0 < u := by omega
      cases f with
      | zero => exact absurd HP.out (by simp; omega)
      | succ f =>
        have hf : 0 < f ∨ u < 10 := by
          by_cases h : f = 0
          · subst h; right; simpa using HP.out
          · left; omega
        have HP' : Hid (u / 10 < 10 ^ f) := by have := HP.out; rw [Nat.pow_succ] at this; show u / 10 < 10 ^ f; omega
        have HD' : Hid (mkF f (u / 10) (fb (u % 10) :: acc) = mkF 20 k []) := by have := HD.out; rw [mkF_step hu0] at this; exact this
        have hone := one_text (fb (u % 10)) wr
        rw [show ((fb (u % 10)).toNat : Int) = 48 + (u : Int) % 10 by rw [fb_nat (by omega)]; omega] at hone
        clear HP HD
        go_wp2
        go_roundw
        case rel => exact ⟨f, u / 10, fb (u % 10) :: acc, by go_num, by rw [cat_one], by omega, by simp; omega, by omega, HP', HD', hnx.alloc hnx.size _⟩
        case measure => simp [intOf]; omega

/-- a place of an owned list is written -/
theorem set_strV {l : List ByteArray} {j : Nat} {x : ByteArray} : (strV l).set j (.string x) = strV (l.set j x) := by
  unfold strV; rw [List.map_set]

set_option maxHeartbeats 1000000 in
theorem mark7 (l : List ByteArray) (v : Value) (B k : Nat) (h0 : 0 < k) (hk : k + l.length ≤ 1000000) (w : World) (hown : w.ownsRow B 9 1 v l.length (strV l)) (hB : B ≤ w.heap.size) :
    Calls Try.prog 7 #[v, .int .i64 k] w fun e w' => e = .returned (.int .i64 ((k : Int) + l.length)) ∧ w'.ownsRow B 9 1 v l.length (strV (marks k l.length)) ∧ Below B w w' := by
  obtain ⟨a, cap, rfl, hc⟩ := own_form hown
  by_cases hp : 0 < l.length
  · obtain ⟨g, rfl, hg, _⟩ := hc hp
    have hBg : B ≤ g := own_ge hown g hg
    clear hc hg
    go_enter Try.func7, Try.ntmps7
    go_wp2
    go_loopw [1, 5] (fun kv i wr => ∃ j : Nat, j ≤ l.length ∧ kv = .int .i64 (k + j : Nat) ∧ i = .int .i64 j ∧ wr.ownsRow B 9 1 (.slice (some ⟨g, 0, none⟩) l.length cap) l.length (strV (mixed l k j)) ∧ Below B w wr) (fun _ i _ => l.length - (intOf i).toNat)
    case atStart => exact ⟨0, Nat.zero_le _, rfl, rfl, by rw [mixed_zero]; exact hown, Below.refl _ _⟩
    case round =>
      clear hown
      obtain ⟨j, hj, rfl, rfl, hown, hnx⟩ := hrel
      have hsz := hnx.size
      by_cases hlt : j < l.length
      · have hm := mixed_len (k := k) hj
        have hcell := hown.cellAt j (by omega)
        have hfr := hown.frozenAt j
        have hgl := own_lt hown g rfl
        rw [List.getElem?_eq_getElem (by rw [strV_len, hm]; exact hlt)] at hcell
        generalize (strV (mixed l k j))[j]'(by rw [strV_len, hm]; exact hlt) = old at hcell
        have hst := fun (W : World) (hb : Below wr.heap.size wr W) => (own_keep hown hb (fun g' h' => own_lt hown g' h')).stored j (.string (mk (k + j)))
        have HS : Hid (∀ (W : World) (hb : Below wr.heap.size wr W), (W.setCell ⟨g, j, none⟩ (.string (mk (k + j)))).ownsRow B 9 1 (.slice (some ⟨g, 0, none⟩) l.length cap) l.length ((strV (mixed l k j)).set j (.string (mk (k + j))))) := fun W hb => (hst W hb).1
        clear hst
        go_wp2_with fail
        refine (mt13 (k + j) (by omega) (by omega) _).mono ?_
        rintro e w1 ⟨rfl, hb1⟩
        have hcell1 : w1.cell? ⟨g, j, none⟩ = some old := (hb1.cell (p := ⟨g, j, none⟩) hgl).trans hcell
        have hfr1 : w1.frozen? ⟨g, j, none⟩ = false := (hb1.frozen (p := ⟨g, j, none⟩) hgl).trans hfr
        go_wp2
        go_roundw
        case rel => exact ⟨j + 1, by omega, by go_num, by go_num, by have := HS.out w1 hb1; rw [set_strV, mixed_set hlt] at this; exact this, (hnx.trans (hb1.mono (by omega))).setCell hBg _⟩
        case measure => simp [intOf]; omega
      · obtain rfl : j = l.length := by omega
        rw [mixed_all] at hown
        go_wp2
        go_ret
        exact ⟨by go_num, hown, hnx⟩
  · have hz : l.length = 0 := by omega
    obtain rfl : l = [] := List.length_eq_zero_iff.1 hz
    clear hc hp hz
    go_enter Try.func7, Try.ntmps7
    go_wp2
    go_rounds 1
    go_ret
    exact ⟨by simp, hown, Below.refl _ _⟩

set_option maxHeartbeats 1000000 in
theorem held8 (n : Nat) (v : Value) (B k : Nat) (h0 : 0 < k) (hk : k + n ≤ 1000000) (w : World) (hown : w.ownsRow B 9 1 v n (strV (marks k n))) :
    Calls Try.prog 8 #[v, .int .i64 k] w fun e w' => e = .returned (.int .i64 ((k : Int) + n)) ∧ Below w.heap.size w w' := by
  have hl := marks_len n k
  obtain ⟨a, cap, rfl, hc⟩ := own_form hown
  by_cases hp : 0 < n
  · obtain ⟨g, rfl, hg, hcells⟩ := hc hp
    have HC : Hid (∀ j, j < n → w.cell? ⟨g, j, none⟩ = some (.string (mk (k + j)))) := fun j hj => (hcells j _ (marks_at n k j hj)).1
    have hgl := own_lt hown g hg
    clear hc hg hcells hown hl
    go_enter Try.func8, Try.ntmps8
    go_wp2
    go_loopw [1, 5] (fun kv i wr => ∃ j : Nat, j ≤ n ∧ kv = .int .i64 (k + j : Nat) ∧ i = .int .i64 j ∧ Below w.heap.size w wr) (fun _ i _ => n - (intOf i).toNat)
    case atStart => exact ⟨0, Nat.zero_le _, rfl, rfl, Below.refl _ _⟩
    case round =>
      obtain ⟨j, hj, rfl, rfl, hnx⟩ := hrel
      by_cases hlt : j < n
      · have hcell : wr.cell? ⟨g, j, none⟩ = some (.string (mk (k + j))) := (hnx.cell (p := ⟨g, j, none⟩) hgl).trans (HC.out j hlt)
        have hgl' : g < wr.heap.size := Nat.lt_of_lt_of_le hgl hnx.size
        have i0 : (0 : Int) ≤ (j : Int) := by omega
        have i1 : (j : Int) < (n : Int) := by omega
        go_wp2
        go_region_held3 (fun w' => w'.cell? ⟨g, j, none⟩ = some (.string (mk (k + j)))) (first | go_keep | (rw [hb1.cell (p := ⟨g, j, none⟩) hgl']; exact hcell)) (first | (go_at_call 13; refine (mt13 (k + j) (by omega) (by omega) _).mono ?_; rintro e w1 ⟨rfl, hb1⟩))
        go_wp2
        go_roundw
        case rel => exact ⟨j + 1, by omega, by go_num, by go_num, hnx.drew.trans (hb1.mono hnx.size)⟩
        case measure => simp [intOf]; omega
      · obtain rfl : j = n := by omega
        go_wp2
        go_ret
        exact ⟨by go_num, hnx⟩
  · obtain rfl : n = 0 := by omega
    clear hc hp
    go_enter Try.func8, Try.ntmps8
    go_wp2
    go_rounds 1
    go_ret
    exact ⟨by simp, Below.refl _ _⟩

set_option maxHeartbeats 1000000 in
theorem eq6 (l : List ByteArray) (va vb : Value) (A B n : Nat) (hn : n ≤ 1000000) (w : World) (ha : w.ownsRow A 9 1 va n (strV l)) (hb : w.ownsRow B 9 1 vb n (strV l)) :
    Calls Try.prog 6 #[va, vb] w fun e w' => e = .returned (.bool true) ∧ Below w.heap.size w w' := by
  have hl : l.length = n := by have := ha.1; rw [strV_len] at this; omega
  obtain ⟨a, ca, rfl, hca⟩ := own_form ha
  obtain ⟨b, cb, rfl, hcb⟩ := own_form hb
  clear ha hb
  by_cases hp : 0 < n
  · obtain ⟨g, rfl, _, hcg⟩ := hca hp
    obtain ⟨h, rfl, _, hch⟩ := hcb hp
    have HA : Hid (∀ j x, l[j]? = some x → w.cell? ⟨g, j, none⟩ = some (.string x) ∧ w.frozen? ⟨g, j, none⟩ = false) := hcg
    have HB : Hid (∀ j x, l[j]? = some x → w.cell? ⟨h, j, none⟩ = some (.string x) ∧ w.frozen? ⟨h, j, none⟩ = false) := hch
    clear hca hcb hcg hch
    go_enter Try.func6, Try.ntmps6
    go_wp2
    go_loopw [5] (fun i wr => ∃ (j q : Nat), j ≤ n ∧ i = .int .i64 j ∧ wr = w.drewN q) (fun i _ => n - (intOf i).toNat)
    case atStart => exact ⟨0, 0, Nat.zero_le _, rfl, rfl⟩
    case round =>
      obtain ⟨j, q, hj, rfl, rfl⟩ := hrel
      by_cases hlt : j < n
      · have hx : l[j]? = some (l[j]'(by omega)) := List.getElem?_eq_getElem (by omega)
        have c1 := (HA.out j _ hx).1
        have c2 := (HB.out j _ hx).1
        generalize l[j]'(by omega) = x at c1 c2
        clear hx
        have i0 : (0 : Int) ≤ (j : Int) := by omega
        have i1 : (j : Int) < (n : Int) := by omega
        go_wp2
        go_quiet (fail)
        go_wp2
        go_roundw
        case rel => exact ⟨j + 1, q + nq, by omega, by go_num, rfl⟩
        case measure => simp [intOf]; omega
      · go_wp2
        go_ret
        exact ⟨rfl, below_drewN (Below.refl _ _) _⟩
  · obtain rfl : n = 0 := by omega
    clear hca hcb hp
    go_enter Try.func6, Try.ntmps6
    go_wp2
    go_rounds 1
    go_ret
    exact ⟨rfl, Below.refl _ _⟩
end Go.Proofs.Ytjnfiefnehlgnal
