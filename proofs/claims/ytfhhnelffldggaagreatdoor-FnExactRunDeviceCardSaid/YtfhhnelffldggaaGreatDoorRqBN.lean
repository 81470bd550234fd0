/-
  RunDevice of both sides, at every list of inputs.
-/
import Derived.Test.YtfhhnelffldggaaGreatDoorRqAB
import Derived.Test.YtfhhnelffldggaaGreatDoorRqBF
import Derived.Test.YtfhhnelffldggaaGreatDoorRqBM
import Derived.Test.YtfhhnelffldggaaGreatDoorRqAT
import Derived.Test.YtfhhnelffldggaaGreatDoorRqBD
set_option maxRecDepth 100000
set_option maxHeartbeats 16000000
namespace Go.Proofs.YtfhhnelffldggaaGreatDoor
open Go.ChangeShapes Go.WideShapes Go.ChangeAt Go.RowKit Go.Deep Go.PlainAid
set_option linter.unusedVariables false
set_option linter.unusedSimpArgs false
theorem runIN (l : List In3) (a : Option Addr) (n cap : Nat) (hl : l.length = n) (hn : n ≤ 1048576) (hB : (decide (n ≤ 150) && l.all inOkB) = false) (w : World) (hr : RdZ w a l) :
    Calls Tryz.prog 8 #[.slice a n cap] w fun e w' => e = .returned (.tuple #[.agg #[.int .i64 0, .int .i64 0, .int .i64 0, .int .i64 0, .int .i64 0, .int .i64 0, .int .i64 0, .int .i64 0, .slice none 0 0, .int .i64 0, .int .i64 0, .bool false, .int .i64 0, .int .i64 0, .string ⟨#[]⟩, .slice none 0 0, .int .i64 0], .bool false]) ∧ Below w.heap.size w w' := by
  have HL : Hid (l.length = n) := hl
  have HR : Hid (RdZ w a l) := hr
  obtain ⟨W0, hW0⟩ : ∃ W0, (w.alloc (dZ)) = W0 := ⟨_, rfl⟩
  have HZ0 : Hid (W0.heap[w.heap.size]? = some (dZ)) := by rw [← hW0]; exact heap_new w _
  have HB0 : Hid (Below w.heap.size w W0) := by rw [← hW0]; exact alM _ _
  by_cases h5 : n ≤ 150
  · have hA : Hid (l.all inOkB = false) := by
      show _ = _
      rw [decide_eq_true h5, Bool.true_and] at hB
      exact hB
    have hnn : ¬ ((150 : Int) < n) := by omega
    clear hl hB hr
    go_enter Tryz.func8, Tryz.ntmps8
    go_upto_region 1 with fail
    (try rw [hW0])
    clear hW0
    go_wp2_with fail
    refine (areIn a l n cap false hA.out HL.out hn _ (HR.out.keep HB0.out (Nat.le_refl _))).mono ?_
    rintro e w1 ⟨rfl, hbc⟩
    have HB1 := bq HB0 hbc
    have HZ1 : Hid (w1.heap[w.heap.size]? = some (dZ)) := row_on HZ0.out hbc
    clear hbc HB0 HZ0 HR
    go_wp2_with (refine listStoreD rfl rfl _ _ _ rfl rfl w.heap.size dY rfl rfl rfl (by kernel_rfl) HZ1.out rfl ?_)
    intro w7 hput
    have HZ7 : Hid (w7.heap[w.heap.size]? = some (dZ)) := hput.1
    have HB7 : Hid (Below w.heap.size w w7) := hput.2.2.2 _ _ (Nat.le_refl _) HB1.out
    clear hput HZ1 HB1
    go_wp2
    exact bodyPost_ret (v := .tuple #[.agg #[.int .i64 0, .int .i64 0, .int .i64 0, .int .i64 0, .int .i64 0, .int .i64 0, .int .i64 0, .int .i64 0, .slice none 0 0, .int .i64 0, .int .i64 0, .bool false, .int .i64 0, .int .i64 0, .string ⟨#[]⟩, .slice none 0 0, .int .i64 0], .bool false]) (results2_row Tryz.results8 _ _ w.heap.size _ _ _ (.bool false) rfl rfl HZ7.out (by kernel_rfl) (by kernel_rfl)) rfl ⟨rfl, HB7.out⟩
  · have hnn : (150 : Int) < n := by omega
    clear hl hB hr HR
    go_enter Tryz.func8, Tryz.ntmps8
    go_upto_region 1 with fail
    (try rw [hW0])
    clear hW0
    go_wp2_with (refine listStoreD rfl rfl _ _ _ rfl rfl w.heap.size dY rfl rfl rfl (by kernel_rfl) HZ0.out rfl ?_)
    intro w7 hput
    have HZ7 : Hid (w7.heap[w.heap.size]? = some (dZ)) := hput.1
    have HB7 : Hid (Below w.heap.size w w7) := hput.2.2.2 _ _ (Nat.le_refl _) HB0.out
    clear hput HZ0 HB0
    go_wp2
    exact bodyPost_ret (v := .tuple #[.agg #[.int .i64 0, .int .i64 0, .int .i64 0, .int .i64 0, .int .i64 0, .int .i64 0, .int .i64 0, .int .i64 0, .slice none 0 0, .int .i64 0, .int .i64 0, .bool false, .int .i64 0, .int .i64 0, .string ⟨#[]⟩, .slice none 0 0, .int .i64 0], .bool false]) (results2_row Tryz.results8 _ _ w.heap.size _ _ _ (.bool false) rfl rfl HZ7.out (by kernel_rfl) (by kernel_rfl)) rfl ⟨rfl, HB7.out⟩
theorem inp_ofB (x : In3) (h : inOkB x = true) : ∃ y : Inp, y.t3 = x ∧ y.ok := by
  obtain ⟨b, K, L⟩ := x
  obtain ⟨lo, lr, hL⟩ := LkD.ex L
  have h := of_decide_eq_true h
  refine ⟨⟨⟨b, K.data.toList, lo, lr⟩, K, L⟩, rfl, ?_, hL, h.1, h.2.1, h.2.2⟩
  cases K
  simp
theorem inps_ofB : ∀ (l : List In3), l.all inOkB = true → ∃ ys : List Inp, ys.map Inp.t3 = l ∧ ∀ y ∈ ys, y.ok
  | [], _ => ⟨[], rfl, fun y hy => by cases hy⟩
  | x :: l, h => by
    rw [List.all_cons, Bool.and_eq_true] at h
    obtain ⟨y, hy, hok⟩ := inp_ofB x h.1
    obtain ⟨ys, hys, hoks⟩ := inps_ofB l h.2
    refine ⟨y :: ys, by simp [hy, hys], fun z hz => ?_⟩
    rcases List.mem_cons.1 hz with rfl | hz
    · exact hok
    · exact hoks z hz
def zeroD : Dv := ⟨⟨0, 0, 0, 0, 0, 0, 0, 0⟩, [], 0, ⟨0, false, 0, 0, []⟩, [], 0⟩
theorem bothRun (l : List In3) (n : Nat) (hl : l.length = n) (hn : n ≤ 1048576) : ∃ (D : Dv) (B : Bool), D.l.length ≤ 9 ∧ D.t.length ≤ 150 ∧
    (∀ (a : Option Addr) (cap : Nat) (w : World), RdZ w a l → Calls Tryz.prog 9 #[.slice a n cap] w fun e w' => ∃ A nn c TA tn ct, e = .returned (.tuple #[.agg #[.int .i64 D.p.s, .int .i64 D.p.n, .int .i64 D.p.d, .int .i64 D.p.r, .int .i64 D.p.l, .int .i64 D.p.b, .int .i64 D.p.g, .int .i64 D.p.k, .slice A nn c, .int .i64 D.al, .int .i64 D.m.a, .bool D.m.b, .int .i64 D.m.n, .int .i64 D.m.d, .string ⟨D.m.s.toArray⟩, .slice TA tn ct, .int .i64 D.rf], .bool B]) ∧ D.l.length = nn ∧ D.t.length = tn ∧ G.Rd w' A D.l ∧ RdY w' TA D.t ∧ Below w.heap.size w w') ∧
    (∀ (a : Option Addr) (cap : Nat) (w : World), Q.Tab w → RdZ w a l → Calls Tryz.prog 8 #[.slice a n cap] w fun e w' => ∃ A nn c TA tn ct, e = .returned (.tuple #[.agg #[.int .i64 D.p.s, .int .i64 D.p.n, .int .i64 D.p.d, .int .i64 D.p.r, .int .i64 D.p.l, .int .i64 D.p.b, .int .i64 D.p.g, .int .i64 D.p.k, .slice A nn c, .int .i64 D.al, .int .i64 D.m.a, .bool D.m.b, .int .i64 D.m.n, .int .i64 D.m.d, .string ⟨D.m.s.toArray⟩, .slice TA tn ct, .int .i64 D.rf], .bool B]) ∧ D.l.length = nn ∧ D.t.length = tn ∧ OwnGN w' w.heap.size A nn c D.l ∧ OwnUN w' w.heap.size TA tn ct D.t ∧ Below w.heap.size w w') := by
  obtain ⟨B, hB⟩ : ∃ B, (decide (n ≤ 150) && l.all inOkB) = B := ⟨_, rfl⟩
  cases B
  · refine ⟨zeroD, false, by decide, by decide, fun a cap w hr => ?_, fun a cap w ht hr => ?_⟩
    · refine (runSN l a n cap hl hn hB w hr).mono ?_
      rintro e w' ⟨rfl, hb⟩
      exact ⟨none, 0, 0, none, 0, 0, rfl, rfl, rfl, fun h => by simp [zeroD] at h, fun h => by simp [zeroD] at h, hb⟩
    · refine (runIN l a n cap hl hn hB w hr).mono ?_
      rintro e w' ⟨rfl, hb⟩
      exact ⟨none, 0, 0, none, 0, 0, rfl, rfl, rfl, .inl ⟨rfl, rfl, rfl, rfl⟩, .inl ⟨rfl, rfl, rfl, rfl⟩, hb⟩
  · rw [Bool.and_eq_true] at hB
    have h5 : n ≤ 150 := of_decide_eq_true hB.1
    obtain ⟨xs, rfl, hok⟩ := inps_ofB l hB.2
    rw [List.length_map] at hl
    have hlm : (xs.map (·.i)).length = n := by rw [List.length_map]; exact hl
    obtain ⟨D, hD⟩ : ∃ D, atD (xs.map (·.i)) n = D := ⟨_, rfl⟩
    have hDo : D.ok := by rw [← hD]; exact atD_ok (fun i hi => by obtain ⟨y, hy, rfl⟩ := List.mem_map.1 hi; exact (hok y hy).ic) n
    have hDl : D.t.length = n := by rw [← hD]; exact atD_len (by omega)
    refine ⟨D, true, hDo.g.1, by omega, fun a cap w hr => ?_, fun a cap w ht hr => ?_⟩
    · refine (runS xs hok a n cap hl h5 D hD w hr).mono ?_
      rintro e w' ⟨A, nn, c, TA, ct, rfl, _, h1, h2, h3, hb⟩
      exact ⟨A, nn, c, TA, n, ct, rfl, h3, hDl, h1, h2, hb⟩
    · have hD2 : runD newD (xs.map (·.i)) = ⟨D.p, D.l, D.al, D.m, D.t, D.rf⟩ := by
        unfold atD at hD
        rw [List.take_of_length_le (by omega)] at hD
        rw [hD]
      refine (runI xs hok a n cap hl h5 D.p D.l D.al D.m D.t D.rf hD2 w ht hr).mono ?_
      rintro e w' ⟨g, nn, c, gt, tn, ct, rfl, h1, h2, hb⟩
      exact ⟨_, nn, c, _, tn, ct, rfl, h1.len, h2.len, .inr ⟨g, rfl, h1⟩, .inr ⟨gt, rfl, h2⟩, hb⟩
end Go.Proofs.YtfhhnelffldggaaGreatDoor
