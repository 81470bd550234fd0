/-
  told and deviceOf of the program.
-/
import Derived.Test.YtfhhnelffldggaaGreatDoorRqAB
import Derived.Test.YtfhhnelffldggaaGreatDoorRqAT
import Derived.Test.YtfhhnelffldggaaGreatDoorRqBD
import Derived.Test.YtfhhnelffldggaaGreatDoorRqBB
import Derived.Test.YtfhhnelffldggaaGreatDoorRqAW
set_option maxRecDepth 100000
set_option maxHeartbeats 16000000
namespace Go.Proofs.YtfhhnelffldggaaGreatDoor
open Go.RowKit Go.PlainAid
set_option linter.unusedVariables false
set_option linter.unusedSimpArgs false
theorem toldI (k : Nat) (p : Pm) (g n c : Nat) (al : Int) (m : Mn) (gt tn ct : Nat) (rf : Int) (w : World) (hX : w.heap[k]? = some (.cells (dR p (.slice (some ⟨g, 0, none⟩) n c) al m (.slice (some ⟨gt, 0, none⟩) tn ct) rf) 112)) :
    Calls Tryz.prog 32 #[.pointer (some ⟨k, 0, none⟩)] w fun e w' => e = .returned (.agg #[.int .i64 p.s, .int .i64 p.n, .int .i64 p.d, .int .i64 p.r, .int .i64 p.l, .int .i64 p.b, .int .i64 p.g, .int .i64 p.k, .slice (some ⟨g, 0, none⟩) n c, .int .i64 al, .int .i64 m.a, .bool m.b, .int .i64 m.n, .int .i64 m.d, .string ⟨m.s.toArray⟩, .slice (some ⟨gt, 0, none⟩) tn ct, .int .i64 rf]) ∧ Below w.heap.size w w' := by
  have hk : k < w.heap.size := row_lt hX
  obtain ⟨W0, hW0⟩ : ∃ W0, (w.alloc (dZ)) = W0 := ⟨_, rfl⟩
  have HX0 : Hid (W0.heap[k]? = some (.cells (dR p (.slice (some ⟨g, 0, none⟩) n c) al m (.slice (some ⟨gt, 0, none⟩) tn ct) rf) 112)) := by rw [← hW0]; exact row_on hX (alM _ _)
  have HZ0 : Hid (W0.heap[w.heap.size]? = some (dZ)) := by rw [← hW0]; exact heap_new w _
  have HB0 : Hid (Below w.heap.size w W0) := by rw [← hW0]; exact alM _ _
  clear hX
  go_enter Tryz.func32, Tryz.ntmps32
  go_upto_region 1 with fail
  (try rw [hW0])
  clear hW0
  have HK1 : W0.drew.heap[k]? = some (.cells (dR p (.slice (some ⟨g, 0, none⟩) n c) al m (.slice (some ⟨gt, 0, none⟩) tn ct) rf) 112) := HX0.out
  refine wp_region_held_drew (S := fun w' => w'.heap[k]? = some (.cells (dR p (.slice (some ⟨g, 0, none⟩) n c) al m (.slice (some ⟨gt, 0, none⟩) tn ct) rf) 112)) (by kernel_rfl) HK1 (fun hHeld => ?_)
  obtain ⟨v0, hv0⟩ : ∃ v0, W0.drew = v0 := ⟨_, rfl⟩
  have HZ1 : Hid (v0.heap[w.heap.size]? = some (dZ)) := by rw [← hv0]; exact HZ0.out
  have HB1 : Hid (Below w.heap.size w v0) := by rw [← hv0]; exact HB0.out.drew
  rw [hv0] at HK1 hHeld ⊢
  clear hv0 HX0 HZ0 HB0
  refine tkQ 0 ?_ rfl (by kernel_rfl) (fun _ _ _ h => h) (by rfl) ?_ (by assumption) ?_
  rotate_left
  · intro w_ hSw; (try dsimp only at hSw); clear hSw; (try clear hHeld); go_simp <;> with_reducible rfl
  try simp only [Act.put, sQ1, sQ2, sQ3, sQ4, sQ5, sQ6]
  refine tkQ 1 ?_ rfl (by kernel_rfl) (fun _ _ _ h => h) (by rfl) ?_ (by assumption) ?_
  rotate_left
  · intro w_ hSw; (try dsimp only at hSw); clear hSw; (try clear hHeld); go_simp <;> with_reducible rfl
  try simp only [Act.put, sQ1, sQ2, sQ3, sQ4, sQ5, sQ6]
  refine tkQ 2 ?_ rfl (by kernel_rfl) (fun _ _ _ h => h) (by rfl) ?_ (by assumption) ?_
  rotate_left
  · intro w_ hSw; (try dsimp only at hSw); clear hSw; (try clear hHeld); go_simp <;> with_reducible rfl
  try simp only [Act.put, sQ1, sQ2, sQ3, sQ4, sQ5, sQ6]
  refine tkQ 3 ?_ rfl (by kernel_rfl) (fun _ _ _ h => h) (by rfl) ?_ (by assumption) ?_
  rotate_left
  · intro w_ hSw; (try dsimp only at hSw); have f0 := box17_cells hSw; clear hSw; (try clear hHeld); go_simp <;> with_reducible rfl
  try simp only [Act.put, sQ1, sQ2, sQ3, sQ4, sQ5, sQ6]
  refine tkQ 4 ?_ rfl (by kernel_rfl) (fun _ _ _ h => h) (by rfl) ?_ (by assumption) ?_
  rotate_left
  · intro w_ hSw; (try dsimp only at hSw); clear hSw; (try clear hHeld); go_simp <;> with_reducible rfl
  try simp only [Act.put, sQ1, sQ2, sQ3, sQ4, sQ5, sQ6]
  refine tkQ 5 ?_ rfl (by kernel_rfl) (fun _ _ _ h => h) (by rfl) ?_ (by assumption) ?_
  rotate_left
  · intro w_ hSw; (try dsimp only at hSw); clear hSw; (try clear hHeld); go_simp <;> with_reducible rfl
  try simp only [Act.put, sQ1, sQ2, sQ3, sQ4, sQ5, sQ6]
  refine tkQ 6 ?_ rfl (by kernel_rfl) (fun _ _ _ h => h) (by rfl) ?_ (by assumption) ?_
  rotate_left
  · intro w_ hSw; (try dsimp only at hSw); clear hSw; (try clear hHeld); go_simp <;> with_reducible rfl
  try simp only [Act.put, sQ1, sQ2, sQ3, sQ4, sQ5, sQ6]
  refine tkQ 7 ?_ rfl (by kernel_rfl) (fun _ _ _ h => h) (by rfl) ?_ (by assumption) ?_
  rotate_left
  · intro w_ hSw; (try dsimp only at hSw); have f0 := box17_cells hSw; clear hSw; (try clear hHeld); go_simp <;> with_reducible rfl
  try simp only [Act.put, sQ1, sQ2, sQ3, sQ4, sQ5, sQ6]
  refine tkQ 8 ?_ rfl (by kernel_rfl) (fun _ _ _ h => h) (by rfl) ?_ (by assumption) ?_
  rotate_left
  · intro w_ hSw; (try dsimp only at hSw); clear hSw; (try clear hHeld); go_simp <;> with_reducible rfl
  try simp only [Act.put, sQ1, sQ2, sQ3, sQ4, sQ5, sQ6]
  refine tkQ 9 ?_ rfl (by kernel_rfl) (fun _ _ _ h => h) (by rfl) ?_ (by assumption) ?_
  rotate_left
  · intro w_ hSw; (try dsimp only at hSw); clear hSw; (try clear hHeld); go_simp <;> with_reducible rfl
  try simp only [Act.put, sQ1, sQ2, sQ3, sQ4, sQ5, sQ6]
  refine tkQ 10 ?_ rfl (by kernel_rfl) (fun _ _ _ h => h) (by rfl) ?_ (by assumption) ?_
  rotate_left
  · intro w_ hSw; (try dsimp only at hSw); clear hSw; (try clear hHeld); go_simp <;> with_reducible rfl
  try simp only [Act.put, sQ1, sQ2, sQ3, sQ4, sQ5, sQ6]
  refine tkQ 11 ?_ rfl (by kernel_rfl) (fun _ _ _ h => h) (by rfl) ?_ (by assumption) ?_
  rotate_left
  · intro w_ hSw; (try dsimp only at hSw); have f0 := box17_cells hSw; clear hSw; (try clear hHeld); go_simp <;> with_reducible rfl
  try simp only [Act.put, sQ1, sQ2, sQ3, sQ4, sQ5, sQ6]
  refine tkQ 12 ?_ rfl (by kernel_rfl) (fun _ _ _ h => h) (by rfl) ?_ (by assumption) ?_
  rotate_left
  · intro w_ hSw; (try dsimp only at hSw); clear hSw; (try clear hHeld); go_simp <;> with_reducible rfl
  try simp only [Act.put, sQ1, sQ2, sQ3, sQ4, sQ5, sQ6]
  refine tkQ 13 ?_ rfl (by kernel_rfl) (fun _ _ _ h => h) (by rfl) ?_ (by assumption) ?_
  rotate_left
  · intro w_ hSw; (try dsimp only at hSw); clear hSw; (try clear hHeld); go_simp <;> with_reducible rfl
  try simp only [Act.put, sQ1, sQ2, sQ3, sQ4, sQ5, sQ6]
  refine tkQ 14 ?_ rfl (by kernel_rfl) (fun _ _ _ h => h) (by rfl) ?_ (by assumption) ?_
  rotate_left
  · intro w_ hSw; (try dsimp only at hSw); clear hSw; (try clear hHeld); go_simp <;> with_reducible rfl
  try simp only [Act.put, sQ1, sQ2, sQ3, sQ4, sQ5, sQ6]
  refine tkQ 15 ?_ rfl (by kernel_rfl) (fun _ _ _ h => h) (by rfl) ?_ (by assumption) ?_
  rotate_left
  · intro w_ hSw; (try dsimp only at hSw); have f0 := box17_cells hSw; clear hSw; (try clear hHeld); go_simp <;> with_reducible rfl
  try simp only [Act.put, sQ1, sQ2, sQ3, sQ4, sQ5, sQ6]
  refine tkQ 16 ?_ rfl (by kernel_rfl) (fun _ _ _ h => h) (by rfl) ?_ (by assumption) ?_
  rotate_left
  · intro w_ hSw; (try dsimp only at hSw); clear hSw; (try clear hHeld); go_simp <;> with_reducible rfl
  try simp only [Act.put, sQ1, sQ2, sQ3, sQ4, sQ5, sQ6]
  refine tkQ 17 ?_ rfl (by kernel_rfl) (fun _ _ _ h => h) (by rfl) ?_ (by assumption) ?_
  rotate_left
  · intro w_ hSw; (try dsimp only at hSw); clear hSw; (try clear hHeld); go_simp <;> with_reducible rfl
  try simp only [Act.put, sQ1, sQ2, sQ3, sQ4, sQ5, sQ6]
  refine tkQ 18 ?_ rfl (by kernel_rfl) (fun _ _ _ h => h) (by rfl) ?_ (by assumption) ?_
  rotate_left
  · intro w_ hSw; (try dsimp only at hSw); clear hSw; (try clear hHeld); go_simp <;> with_reducible rfl
  try simp only [Act.put, sQ1, sQ2, sQ3, sQ4, sQ5, sQ6]
  refine tkQ 19 ?_ rfl (by kernel_rfl) (fun _ _ _ h => h) (by rfl) ?_ (by assumption) ?_
  rotate_left
  · intro w_ hSw; (try dsimp only at hSw); have f0 := box17_cells hSw; clear hSw; (try clear hHeld); go_simp <;> with_reducible rfl
  try simp only [Act.put, sQ1, sQ2, sQ3, sQ4, sQ5, sQ6]
  refine tkQ 20 ?_ rfl (by kernel_rfl) (fun _ _ _ h => h) (by rfl) ?_ (by assumption) ?_
  rotate_left
  · intro w_ hSw; (try dsimp only at hSw); clear hSw; (try clear hHeld); go_simp <;> with_reducible rfl
  try simp only [Act.put, sQ1, sQ2, sQ3, sQ4, sQ5, sQ6]
  refine wpAnyH_ready (rs := [21]) (by kernel_rfl) (by simp) ?_
  refine (AllReadyH.cons rfl (fun J hJ => ?_) AllReadyH.nil)
  refine storeR_any rfl rfl _ _ _ rfl w.heap.size (dR p (.slice (some ⟨g, 0, none⟩) n c) al m (.slice (some ⟨gt, 0, none⟩) tn ct) rf) rfl rfl (by kernel_rfl) (by kernel_rfl) HZ1.out rfl ?_
  intro v9 hput
  have HK9 := hput.far HK1 (by omega)
  have HZ9 : Hid (v9.heap[w.heap.size]? = some (dO p (.slice (some ⟨g, 0, none⟩) n c) al m (.slice (some ⟨gt, 0, none⟩) tn ct) rf)) := hput.1
  have HB9 : Hid (Below w.heap.size w v9) := hput.2.2.2 _ _ (Nat.le_refl _) HB1.out
  clear hput HK1 HZ1 HB1
  refine hJ.out _ _ HK9 (fun hHeld => ?_)
  clear hJ J HK9
  try simp only [Act.put, sQ1, sQ2, sQ3, sQ4, sQ5, sQ6]
  clear hHeld
  refine wpAnyH_done (by kernel_rfl) ?_ _
  go_wp2
  refine bodyPost_ret (v := .agg #[.int .i64 p.s, .int .i64 p.n, .int .i64 p.d, .int .i64 p.r, .int .i64 p.l, .int .i64 p.b, .int .i64 p.g, .int .i64 p.k, .slice (some ⟨g, 0, none⟩) n c, .int .i64 al, .int .i64 m.a, .bool m.b, .int .i64 m.n, .int .i64 m.d, .string ⟨m.s.toArray⟩, .slice (some ⟨gt, 0, none⟩) tn ct, .int .i64 rf]) (results_cell_row Tryz.results32 _ _ w.heap.size _ _ _ _ rfl HZ9.out Tryz.underlying37 rfl (by kernel_rfl)) rfl ⟨rfl, HB9.out⟩
theorem devofI (p : Pm) (a : Option Addr) (n cap : Nat) (l : List Int) (al : Int) (m : Mn) (ta : Option Addr) (tn tc : Nat) (t : List Tk3) (rf : Int) (hl : l.length = n) (hn : n ≤ 1048576) (ht : t.length = tn) (htn : tn ≤ 1048576) (hm : m.s.length ≤ 1048576) (w : World) (hr : G.Rd w a l) (hrt : RdY w ta t) :
    Calls Tryz.prog 30 #[.agg #[.int .i64 p.s, .int .i64 p.n, .int .i64 p.d, .int .i64 p.r, .int .i64 p.l, .int .i64 p.b, .int .i64 p.g, .int .i64 p.k, .slice a n cap, .int .i64 al, .int .i64 m.a, .bool m.b, .int .i64 m.n, .int .i64 m.d, .string ⟨m.s.toArray⟩, .slice ta tn tc, .int .i64 rf]] w fun e w' => ∃ k g1 g3, e = .returned (.pointer (some ⟨k, 0, none⟩)) ∧ w'.heap[k]? = some (.cells (dR p (.slice (some ⟨g1, 0, none⟩) n n) al m (.slice (some ⟨g3, 0, none⟩) tn tn) rf) 112) ∧ w.heap.size ≤ k ∧ G.OwnN w' w.heap.size g1 n n l ∧ OwnU w' w.heap.size g3 tn tn t ∧ Below w.heap.size w w' := by
  have HL : Hid (l.length = n) := hl
  have HT : Hid (t.length = tn) := ht
  have HR : Hid (G.Rd w a l) := hr
  have HRT : Hid (RdY w ta t) := hrt
  obtain ⟨W0, hW0⟩ : ∃ W0, (w.alloc (dO p (.slice a n cap) al m (.slice ta tn tc) rf)) = W0 := ⟨_, rfl⟩
  have HX0 : Hid (W0.heap[w.heap.size]? = some (dO p (.slice a n cap) al m (.slice ta tn tc) rf)) := by rw [← hW0]; exact heap_new w _
  have HB0 : Hid (Below w.heap.size w W0) := by rw [← hW0]; exact alM _ _
  clear hl ht hr hrt
  go_enter Tryz.func30, Tryz.ntmps30
  go_upto_region 1 with fail
  (try rw [hW0])
  clear hW0
  have HK0 : W0.drew.heap[w.heap.size]? = some (dO p (.slice a n cap) al m (.slice ta tn tc) rf) := HX0.out
  refine wp_region_held_drew (S := fun w' => w'.heap[w.heap.size]? = some (dO p (.slice a n cap) al m (.slice ta tn tc) rf)) (by kernel_rfl) HK0 (fun hHeld => ?_)
  obtain ⟨v0, hv0⟩ : ∃ v0, W0.drew = v0 := ⟨_, rfl⟩
  have HB1 : Hid (Below w.heap.size w v0) := by rw [← hv0]; exact HB0.out.drew
  rw [hv0] at HK0 hHeld ⊢
  clear hv0 HX0 HB0
  refine tkQ 0 ?_ rfl (by kernel_rfl) (fun _ _ _ h => h) (by rfl) ?_ (by assumption) ?_
  rotate_left
  · intro w_ hSw; (try dsimp only at hSw); clear hSw; (try clear hHeld); go_simp <;> with_reducible rfl
  try simp only [Act.put, sQ1, sQ2, sQ3, sQ4, sQ5, sQ6]
  refine tkQ 1 ?_ rfl (by kernel_rfl) (fun _ _ _ h => h) (by rfl) ?_ (by assumption) ?_
  rotate_left
  · intro w_ hSw; (try dsimp only at hSw); have f0 := box17_cells hSw; clear hSw; (try clear hHeld); go_simp <;> with_reducible rfl
  try simp only [Act.put, sQ1, sQ2, sQ3, sQ4, sQ5, sQ6]
  refine tkQ 2 ?_ rfl (by kernel_rfl) (fun _ _ _ h => h) (by rfl) ?_ (by assumption) ?_
  rotate_left
  · intro w_ hSw; (try dsimp only at hSw); clear hSw; (try clear hHeld); go_simp <;> with_reducible rfl
  try simp only [Act.put, sQ1, sQ2, sQ3, sQ4, sQ5, sQ6]
  refine tkQ 3 ?_ rfl (by kernel_rfl) (fun _ _ _ h => h) (by rfl) ?_ (by assumption) ?_
  rotate_left
  · intro w_ hSw; (try dsimp only at hSw); have f0 := box17_cells hSw; clear hSw; (try clear hHeld); go_simp <;> with_reducible rfl
  try simp only [Act.put, sQ1, sQ2, sQ3, sQ4, sQ5, sQ6]
  refine tkQ 5 ?_ rfl (by kernel_rfl) (fun _ _ _ h => h) (by rfl) ?_ (by assumption) ?_
  rotate_left
  · intro w_ hSw; (try dsimp only at hSw); clear hSw; (try clear hHeld); go_simp <;> with_reducible rfl
  try simp only [Act.put, sQ1, sQ2, sQ3, sQ4, sQ5, sQ6]
  refine tkQ 6 ?_ rfl (by kernel_rfl) (fun _ _ _ h => h) (by rfl) ?_ (by assumption) ?_
  rotate_left
  · intro w_ hSw; (try dsimp only at hSw); have f0 := box17_cells hSw; clear hSw; (try clear hHeld); go_simp <;> with_reducible rfl
  try simp only [Act.put, sQ1, sQ2, sQ3, sQ4, sQ5, sQ6]
  refine tkQ 8 ?_ rfl (by kernel_rfl) (fun _ _ _ h => h) (by rfl) ?_ (by assumption) ?_
  rotate_left
  · intro w_ hSw; (try dsimp only at hSw); clear hSw; (try clear hHeld); go_simp <;> with_reducible rfl
  try simp only [Act.put, sQ1, sQ2, sQ3, sQ4, sQ5, sQ6]
  refine tkQ 9 ?_ rfl (by kernel_rfl) (fun _ _ _ h => h) (by rfl) ?_ (by assumption) ?_
  rotate_left
  · intro w_ hSw; (try dsimp only at hSw); have f0 := box17_cells hSw; clear hSw; (try clear hHeld); go_simp <;> with_reducible rfl
  try simp only [Act.put, sQ1, sQ2, sQ3, sQ4, sQ5, sQ6]
  refine tkQ 11 ?_ rfl (by kernel_rfl) (fun _ _ _ h => h) (by rfl) ?_ (by assumption) ?_
  rotate_left
  · intro w_ hSw; (try dsimp only at hSw); clear hSw; (try clear hHeld); go_simp <;> with_reducible rfl
  try simp only [Act.put, sQ1, sQ2, sQ3, sQ4, sQ5, sQ6]
  refine tkQ 12 ?_ rfl (by kernel_rfl) (fun _ _ _ h => h) (by rfl) ?_ (by assumption) ?_
  rotate_left
  · intro w_ hSw; (try dsimp only at hSw); have f0 := box17_cells hSw; clear hSw; (try clear hHeld); go_simp <;> with_reducible rfl
  try simp only [Act.put, sQ1, sQ2, sQ3, sQ4, sQ5, sQ6]
  refine wpAnyH_ready (rs := [4]) (by kernel_rfl) (by simp) ?_
  refine (AllReadyH.cons rfl (fun J hJ => ?_) AllReadyH.nil)
  go_simp
  go_at_call 76
  refine (G.copyGI a al l n cap HL.out hn _ (HR.out.keep HB1.out (Nat.le_refl _))).mono ?_
  rintro e v1 ⟨rfl, hown, hbc⟩
  obtain ⟨g1, hg1⟩ : ∃ g1, v0.heap.size + 2 = g1 := ⟨_, rfl⟩
  rw [hg1] at hown ⊢
  have hs0 : w.heap.size ≤ v0.heap.size := HB1.out.size
  have HG1 : Hid (G.OwnN v1 w.heap.size g1 n n l) := hown.mono (by omega)
  have HB2 := bq HB1 hbc
  have HK1 := row_on HK0 hbc
  clear hown hbc HK0 HB1 hg1 hs0
  go_wp2_with fail
  refine hJ.out _ _ HK1 (fun hHeld => ?_)
  clear hJ J
  try simp only [Act.put, sQ1, sQ2, sQ3, sQ4, sQ5, sQ6]
  refine wpAnyH_ready (rs := [7]) (by kernel_rfl) (by simp) ?_
  refine (AllReadyH.cons rfl (fun J hJ => ?_) AllReadyH.nil)
  go_simp
  go_at_call 77
  refine (copyI m hm _).mono ?_
  rintro e v2 ⟨rfl, hbc⟩
  have HG2 : Hid (G.OwnN v2 w.heap.size g1 n n l) := HG1.out.on hbc
  have HB3 := bq HB2 hbc
  have HK2 := row_on HK1 hbc
  clear hbc HK1 HB2 HG1
  unfold mnV
  go_wp2_with fail
  refine hJ.out _ _ HK2 (fun hHeld => ?_)
  clear hJ J
  try simp only [Act.put, sQ1, sQ2, sQ3, sQ4, sQ5, sQ6]
  refine wpAnyH_ready (rs := [10]) (by kernel_rfl) (by simp) ?_
  refine (AllReadyH.cons rfl (fun J hJ => ?_) AllReadyH.nil)
  go_simp
  go_at_call 78
  refine (cpY ta t tn tc HT.out htn _ (HRT.out.keep HB3.out (Nat.le_refl _))).mono ?_
  rintro e v3 ⟨rfl, hrow, hbc⟩
  obtain ⟨g3, hg3⟩ : ∃ g3, v2.heap.size = g3 := ⟨_, rfl⟩
  rw [hg3] at hrow ⊢
  have hs2 : w.heap.size ≤ g3 := by rw [← hg3]; exact HB3.out.size
  have HG3 : Hid (G.OwnN v3 w.heap.size g1 n n l) := HG2.out.on hbc
  have HB4 := bq HB3 hbc
  have HU3 : Hid (OwnU v3 w.heap.size g3 tn tn t) := by have h := RowY.ownU hrow hs2 (by have := HT.out; unfold maxLen; omega); rw [HT.out] at h; exact h
  have HK3 := row_on HK2 hbc
  clear hbc hrow HK2 HB3 HG2 hg3
  go_wp2_with fail
  refine hJ.out _ _ HK3 (fun hHeld => ?_)
  clear hJ J
  try simp only [Act.put, sQ1, sQ2, sQ3, sQ4, sQ5, sQ6]
  refine tkQ 13 ?_ rfl (by kernel_rfl) (fun _ _ _ h => h) (by rfl) ?_ (by assumption) ?_
  rotate_left
  · intro w_ hSw; (try dsimp only at hSw); clear hSw; (try clear hHeld); go_simp <;> with_reducible rfl
  try simp only [Act.put, sQ1, sQ2, sQ3, sQ4, sQ5, sQ6]
  refine wpAnyH_ready (rs := [14]) (by kernel_rfl) (by simp) ?_
  refine (AllReadyH.cons rfl (fun J hJ => ?_) AllReadyH.nil)
  go_simp
  have HG4 : Hid (G.OwnN (v3.alloc (.cells (dR p (.slice (some ⟨g1, 0, none⟩) n n) al m (.slice (some ⟨g3, 0, none⟩) tn tn) rf) 112)) w.heap.size g1 n n l) := HG3.out.on (alM _ _)
  have HU4 : Hid (OwnU (v3.alloc (.cells (dR p (.slice (some ⟨g1, 0, none⟩) n n) al m (.slice (some ⟨g3, 0, none⟩) tn tn) rf) 112)) w.heap.size g3 tn tn t) := HU3.out.on (alM _ _)
  have HB5 : Hid (Below w.heap.size w (v3.alloc (.cells (dR p (.slice (some ⟨g1, 0, none⟩) n n) al m (.slice (some ⟨g3, 0, none⟩) tn tn) rf) 112))) := bel_on (Nat.le_refl _) HB4.out (alM _ _)
  have HX5 : Hid ((v3.alloc (.cells (dR p (.slice (some ⟨g1, 0, none⟩) n n) al m (.slice (some ⟨g3, 0, none⟩) tn tn) rf) 112)).heap[v3.heap.size]? = some (.cells (dR p (.slice (some ⟨g1, 0, none⟩) n n) al m (.slice (some ⟨g3, 0, none⟩) tn tn) rf) 112)) := heap_new v3 _
  have hs5 : w.heap.size ≤ v3.heap.size := HB4.out.size
  have HK4 := row_on HK3 (alM v3 (.cells (dR p (.slice (some ⟨g1, 0, none⟩) n n) al m (.slice (some ⟨g3, 0, none⟩) tn tn) rf) 112))
  refine hJ.out _ _ HK4 (fun hHeld => ?_)
  clear hJ J HK3 HG3 HU3 HB4
  try simp only [Act.put, sQ1, sQ2, sQ3, sQ4, sQ5, sQ6]
  generalize v3.alloc (.cells (dR p (.slice (some ⟨g1, 0, none⟩) n n) al m (.slice (some ⟨g3, 0, none⟩) tn tn) rf) 112) = v4 at *
  generalize v3.heap.size = k0 at *
  refine tkQ 15 ?_ rfl (by kernel_rfl) (fun _ _ _ h => h) (by rfl) ?_ (by assumption) ?_
  rotate_left
  · intro w_ hSw; (try dsimp only at hSw); clear hSw; (try clear hHeld); go_simp <;> with_reducible rfl
  try simp only [Act.put, sQ1, sQ2, sQ3, sQ4, sQ5, sQ6]
  clear hHeld
  refine wpAnyH_done (by kernel_rfl) ?_ _
  go_wp2
  go_ret
  exact ⟨k0, g1, g3, rfl, HX5.out, hs5, HG4.out, HU4.out, HB5.out⟩
end Go.Proofs.YtfhhnelffldggaaGreatDoor
