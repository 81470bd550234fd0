/-
  told and deviceOf of the program.
-/
import Derived.Test.YtfhhnelffldggaaGreatDoorUqAC
import Derived.Test.YtfhhnelffldggaaGreatDoorUqBE
import Derived.Test.YtfhhnelffldggaaGreatDoorUqBM
import Derived.Test.YtfhhnelffldggaaGreatDoorUqBK
import Derived.Test.YtfhhnelffldggaaGreatDoorUqBF
import Derived.Test.YtfhhnelffldggaaGreatDoorUqBA
import Derived.Test.YtfhhnelffldggaaGreatDoorUqAE
import Derived.Test.YtfhhnelffldggaaGreatDoorUqAU
set_option maxRecDepth 100000
set_option maxHeartbeats 16000000
namespace Go.Proofs.YtfhhnelffldggaaGreatDoor
open Go.RowKit Go.PlainAid
set_option linter.unusedVariables false
set_option linter.unusedSimpArgs false
theorem toldI (k : Nat) (p : Pm) (g n c : Nat) (al : Int) (m : Mn) (gt tn ct : Nat) (rf : Int) (w : World) (hX : w.heap[k]? = some (.cells (dR p (.slice (some ⟨g, 0, none⟩) n c) al m (.slice (some ⟨gt, 0, none⟩) tn ct) rf) 112)) :
  Calls Tryz.prog 32 #[.pointer (some ⟨k, 0, none⟩)] w fun e w' => e = .returned (.agg #[.int .i64 p.s, .int .i64 p.n, .int .i64 p.d, .int .i64 p.r, .int .i64 p.l, .int .i64 p.b, .int .i64 p.g, .int .i64 p.k, .slice (some ⟨g, 0, none⟩) n c, .int .i64 al, .int .i64 m.a, .bool m.b, .int .i64 m.n, .int .i64 m.d, .string ⟨m.s.toArray⟩, .slice (some ⟨gt, 0, none⟩) tn ct, .int .i64 rf]) ∧ Below w.heap.size w w' := by
 have hk : k < w.heap.size := row_lt hX
 obtain ⟨W0, hW0⟩ : ∃ W0, (w.alloc (dZ)) = W0 := ⟨_, rfl⟩
 have HX0 : Hid (W0.heap[k]? = some (.cells (dR p (.slice (some ⟨g, 0, none⟩) n c) al m (.slice (some ⟨gt, 0, none⟩) tn ct) rf) 112)) := by rw [← hW0]; exact row_on hX (alM _ _)
 have HZ0 : Hid (W0.heap[w.heap.size]? = some (dZ)) := by rw [← hW0]; exact heap_new w _
 have HB0 : Hid (Below w.heap.size w W0) := by rw [← hW0]; exact alM _ _
 clear hX
 go_enter Tryz.func32, Tryz.ntmps32
 go_upto_region 1 with fail
 (try rw [hW0])
 clear hW0
 have HK1 : W0.drew.heap[k]? = some (.cells (dR p (.slice (some ⟨g, 0, none⟩) n c) al m (.slice (some ⟨gt, 0, none⟩) tn ct) rf) 112) := HX0.out
 refine wp_region_held_drew (S := fun w' => w'.heap[k]? = some (.cells (dR p (.slice (some ⟨g, 0, none⟩) n c) al m (.slice (some ⟨gt, 0, none⟩) tn ct) rf) 112)) (by kernel_rfl) HK1 (fun hHeld => ?_)
 obtain ⟨v0, hv0⟩ : ∃ v0, W0.drew = v0 := ⟨_, rfl⟩
 have HZ1 : Hid (v0.heap[w.heap.size]? = some (dZ)) := by rw [← hv0]; exact HZ0.out
 have HB1 : Hid (Below w.heap.size w v0) := by rw [← hv0]; exact HB0.out.drew
 rw [hv0] at HK1 hHeld ⊢
 clear hv0 HX0 HZ0 HB0
 refine tkQ 0 ?_ rfl ?_ ?_
 rotate_left
 · intro w_ hSw; clear hSw; (try clear hHeld); go_simp <;> with_reducible rfl
 try simp only [Act.put, sQ]
 refine tkQ 1 ?_ rfl ?_ ?_
 rotate_left
 · intro w_ hSw; clear hSw; (try clear hHeld); go_simp <;> with_reducible rfl
 try simp only [Act.put, sQ]
 refine tkQ 2 ?_ rfl ?_ ?_
 rotate_left
 · intro w_ hSw; clear hSw; (try clear hHeld); go_simp <;> with_reducible rfl
 try simp only [Act.put, sQ]
 refine tkQ 3 ?_ rfl ?_ ?_
 rotate_left
 · intro w_ hSw; (try dsimp only at hSw); have f0 := box17_cells hSw; clear hSw; (try clear hHeld); go_simp <;> with_reducible rfl
 try simp only [Act.put, sQ]
 refine tkQ 4 ?_ rfl ?_ ?_
 rotate_left
 · intro w_ hSw; clear hSw; (try clear hHeld); go_simp <;> with_reducible rfl
 try simp only [Act.put, sQ]
 refine tkQ 5 ?_ rfl ?_ ?_
 rotate_left
 · intro w_ hSw; clear hSw; (try clear hHeld); go_simp <;> with_reducible rfl
 try simp only [Act.put, sQ]
 refine tkQ 6 ?_ rfl ?_ ?_
 rotate_left
 · intro w_ hSw; clear hSw; (try clear hHeld); go_simp <;> with_reducible rfl
 try simp only [Act.put, sQ]
 refine tkQ 7 ?_ rfl ?_ ?_
 rotate_left
 · intro w_ hSw; (try dsimp only at hSw); have f0 := box17_cells hSw; clear hSw; (try clear hHeld); go_simp <;> with_reducible rfl
 try simp only [Act.put, sQ]
 refine tkQ 8 ?_ rfl ?_ ?_
 rotate_left
 · intro w_ hSw; clear hSw; (try clear hHeld); go_simp <;> with_reducible rfl
 try simp only [Act.put, sQ]
 refine tkQ 9 ?_ rfl ?_ ?_
 rotate_left
 · intro w_ hSw; clear hSw; (try clear hHeld); go_simp <;> with_reducible rfl
 try simp only [Act.put, sQ]
 refine tkQ 10 ?_ rfl ?_ ?_
 rotate_left
 · intro w_ hSw; clear hSw; (try clear hHeld); go_simp <;> with_reducible rfl
 try simp only [Act.put, sQ]
 refine tkQ 11 ?_ rfl ?_ ?_
 rotate_left
 · intro w_ hSw; (try dsimp only at hSw); have f0 := box17_cells hSw; clear hSw; (try clear hHeld); go_simp <;> with_reducible rfl
 try simp only [Act.put, sQ]
 refine tkQ 12 ?_ rfl ?_ ?_
 rotate_left
 · intro w_ hSw; clear hSw; (try clear hHeld); go_simp <;> with_reducible rfl
 try simp only [Act.put, sQ]
 refine tkQ 13 ?_ rfl ?_ ?_
 rotate_left
 · intro w_ hSw; clear hSw; (try clear hHeld); go_simp <;> with_reducible rfl
 try simp only [Act.put, sQ]
 refine tkQ 14 ?_ rfl ?_ ?_
 rotate_left
 · intro w_ hSw; clear hSw; (try clear hHeld); go_simp <;> with_reducible rfl
 try simp only [Act.put, sQ]
 refine tkQ 15 ?_ rfl ?_ ?_
 rotate_left
 · intro w_ hSw; (try dsimp only at hSw); have f0 := box17_cells hSw; clear hSw; (try clear hHeld); go_simp <;> with_reducible rfl
 try simp only [Act.put, sQ]
 refine tkQ 16 ?_ rfl ?_ ?_
 rotate_left
 · intro w_ hSw; clear hSw; (try clear hHeld); go_simp <;> with_reducible rfl
 try simp only [Act.put, sQ]
 refine tkQ 17 ?_ rfl ?_ ?_
 rotate_left
 · intro w_ hSw; clear hSw; (try clear hHeld); go_simp <;> with_reducible rfl
 try simp only [Act.put, sQ]
 refine tkQ 18 ?_ rfl ?_ ?_
 rotate_left
 · intro w_ hSw; clear hSw; (try clear hHeld); go_simp <;> with_reducible rfl
 try simp only [Act.put, sQ]
 refine tkQ 19 ?_ rfl ?_ ?_
 rotate_left
 · intro w_ hSw; (try dsimp only at hSw); have f0 := box17_cells hSw; clear hSw; (try clear hHeld); go_simp <;> with_reducible rfl
 try simp only [Act.put, sQ]
 refine tkQ 20 ?_ rfl ?_ ?_
 rotate_left
 · intro w_ hSw; clear hSw; (try clear hHeld); go_simp <;> with_reducible rfl
 try simp only [Act.put, sQ]
 refine wpAnyH_ready (rs := [21]) (by kernel_rfl) (by simp) ?_
 refine (AllReadyH.cons rfl (fun J hJ => ?_) AllReadyH.nil)
 refine storeR_any rfl rfl _ _ _ rfl w.heap.size (dR p (.slice (some ⟨g, 0, none⟩) n c) al m (.slice (some ⟨gt, 0, none⟩) tn ct) rf) rfl rfl (by kernel_rfl) (by kernel_rfl) HZ1.out rfl ?_
 intro v9 hput
 have HK9 := hput.far HK1 (by omega)
 have HZ9 := hq hput.1
 have HB9 := hq (hput.2.2.2 _ _ (Nat.le_refl _) HB1.out)
 clear hput HK1 HZ1 HB1
 refine hJ.out _ _ HK9 (fun hHeld => ?_)
 clear hJ J HK9
 try simp only [Act.put, sQ]
 clear hHeld
 refine wpAnyH_done (by kernel_rfl) ?_ _
 go_wp2
 refine bodyPost_ret (v := .agg #[.int .i64 p.s, .int .i64 p.n, .int .i64 p.d, .int .i64 p.r, .int .i64 p.l, .int .i64 p.b, .int .i64 p.g, .int .i64 p.k, .slice (some ⟨g, 0, none⟩) n c, .int .i64 al, .int .i64 m.a, .bool m.b, .int .i64 m.n, .int .i64 m.d, .string ⟨m.s.toArray⟩, .slice (some ⟨gt, 0, none⟩) tn ct, .int .i64 rf]) (results_cell_row Tryz.results32 _ _ w.heap.size _ _ _ _ rfl HZ9.out Tryz.underlying37 rfl (by kernel_rfl)) rfl ⟨rfl, HB9.out⟩
theorem devofI (p : Pm) (a : Option Addr) (n cap : Nat) (l : List Int) (al : Int) (m : Mn) (ta : Option Addr) (tn tc : Nat) (t : List Tk3) (rf : Int) (hl : l.length = n) (hn : n ≤ 1048576) (ht : t.length = tn) (htn : tn ≤ 1048576) (hm : m.s.length ≤ 1048576) (w : World) (hr : G.Rd w a l) (hrt : RdY w ta t) :
  Calls Tryz.prog 30 #[.agg #[.int .i64 p.s, .int .i64 p.n, .int .i64 p.d, .int .i64 p.r, .int .i64 p.l, .int .i64 p.b, .int .i64 p.g, .int .i64 p.k, .slice a n cap, .int .i64 al, .int .i64 m.a, .bool m.b, .int .i64 m.n, .int .i64 m.d, .string ⟨m.s.toArray⟩, .slice ta tn tc, .int .i64 rf]] w fun e w' => ∃ k g1 g3, e = .returned (.pointer (some ⟨k, 0, none⟩)) ∧ w'.heap[k]? = some (.cells (dR p (.slice (some ⟨g1, 0, none⟩) n n) al m (.slice (some ⟨g3, 0, none⟩) tn tn) rf) 112) ∧ w.heap.size ≤ k ∧ G.OwnN w' w.heap.size g1 n n l ∧ OwnU w' w.heap.size g3 tn tn t ∧ Below w.heap.size w w' := by
 have HL := hq hl
 have HT := hq ht
 have HR := hq hr
 have HRT := hq hrt
 obtain ⟨W0, hW0⟩ : ∃ W0, (w.alloc (dO p (.slice a n cap) al m (.slice ta tn tc) rf)) = W0 := ⟨_, rfl⟩
 have HX0 : Hid (W0.heap[w.heap.size]? = some (dO p (.slice a n cap) al m (.slice ta tn tc) rf)) := by rw [← hW0]; exact heap_new w _
 have HB0 : Hid (Below w.heap.size w W0) := by rw [← hW0]; exact alM _ _
 clear hl ht hr hrt
 go_enter Tryz.func30, Tryz.ntmps30
 go_upto_region 1 with fail
 (try rw [hW0])
 clear hW0
 have HK0 : W0.drew.heap[w.heap.size]? = some (dO p (.slice a n cap) al m (.slice ta tn tc) rf) := HX0.out
 refine wp_region_held_drew (S := fun w' => w'.heap[w.heap.size]? = some (dO p (.slice a n cap) al m (.slice ta tn tc) rf)) (by kernel_rfl) HK0 (fun hHeld => ?_)
 obtain ⟨v0, hv0⟩ : ∃ v0, W0.drew = v0 := ⟨_, rfl⟩
 have HB1 : Hid (Below w.heap.size w v0) := by rw [← hv0]; exact HB0.out.drew
 rw [hv0] at HK0 hHeld ⊢
 clear hv0 HX0 HB0
 refine tkQ 0 ?_ rfl ?_ ?_
 rotate_left
 · intro w_ hSw; clear hSw; (try clear hHeld); go_simp <;> with_reducible rfl
 try simp only [Act.put, sQ]
 refine tkQ 1 ?_ rfl ?_ ?_
 rotate_left
 · intro w_ hSw; (try dsimp only at hSw); have f0 := box17_cells hSw; clear hSw; (try clear hHeld); go_simp <;> with_reducible rfl
 try simp only [Act.put, sQ]
 refine tkQ 2 ?_ rfl ?_ ?_
 rotate_left
 · intro w_ hSw; clear hSw; (try clear hHeld); go_simp <;> with_reducible rfl
 try simp only [Act.put, sQ]
 refine tkQ 3 ?_ rfl ?_ ?_
 rotate_left
 · intro w_ hSw; (try dsimp only at hSw); have f0 := box17_cells hSw; clear hSw; (try clear hHeld); go_simp <;> with_reducible rfl
 try simp only [Act.put, sQ]
 refine tkQ 5 ?_ rfl ?_ ?_
 rotate_left
 · intro w_ hSw; clear hSw; (try clear hHeld); go_simp <;> with_reducible rfl
 try simp only [Act.put, sQ]
 refine tkQ 6 ?_ rfl ?_ ?_
 rotate_left
 · intro w_ hSw; (try dsimp only at hSw); have f0 := box17_cells hSw; clear hSw; (try clear hHeld); go_simp <;> with_reducible rfl
 try simp only [Act.put, sQ]
 refine tkQ 8 ?_ rfl ?_ ?_
 rotate_left
 · intro w_ hSw; clear hSw; (try clear hHeld); go_simp <;> with_reducible rfl
 try simp only [Act.put, sQ]
 refine tkQ 9 ?_ rfl ?_ ?_
 rotate_left
 · intro w_ hSw; (try dsimp only at hSw); have f0 := box17_cells hSw; clear hSw; (try clear hHeld); go_simp <;> with_reducible rfl
 try simp only [Act.put, sQ]
 refine tkQ 11 ?_ rfl ?_ ?_
 rotate_left
 · intro w_ hSw; clear hSw; (try clear hHeld); go_simp <;> with_reducible rfl
 try simp only [Act.put, sQ]
 refine tkQ 12 ?_ rfl ?_ ?_
 rotate_left
 · intro w_ hSw; (try dsimp only at hSw); have f0 := box17_cells hSw; clear hSw; (try clear hHeld); go_simp <;> with_reducible rfl
 try simp only [Act.put, sQ]
 refine wpAnyH_ready (rs := [4]) (by kernel_rfl) (by simp) ?_
 refine (AllReadyH.cons rfl (fun J hJ => ?_) AllReadyH.nil)
 go_simp
 go_at_call 76
 refine (G.copyGI a al l n cap HL.out hn _ (HR.out.keep HB1.out (Nat.le_refl _))).mono ?_
 rintro e v1 ⟨rfl, hown, hbc⟩
 obtain ⟨g1, hg1⟩ : ∃ g1, v0.heap.size + 2 = g1 := ⟨_, rfl⟩
 rw [hg1] at hown ⊢
 have hs0 : w.heap.size ≤ v0.heap.size := HB1.out.size
 have HG1 : Hid (G.OwnN v1 w.heap.size g1 n n l) := hown.mono (by omega)
 have HB2 := bq HB1 hbc
 have HK1 := row_on HK0 hbc
 clear hown hbc HK0 HB1 hg1 hs0
 go_wp2_with fail
 refine hJ.out _ _ HK1 (fun hHeld => ?_)
 clear hJ J
 try simp only [Act.put, sQ]
 refine wpAnyH_ready (rs := [7]) (by kernel_rfl) (by simp) ?_
 refine (AllReadyH.cons rfl (fun J hJ => ?_) AllReadyH.nil)
 go_simp
 go_at_call 77
 refine (copyI m hm _).mono ?_
 rintro e v2 ⟨rfl, hbc⟩
 have HG2 := hq (HG1.out.on hbc)
 have HB3 := bq HB2 hbc
 have HK2 := row_on HK1 hbc
 clear hbc HK1 HB2 HG1
 unfold mnV
 go_wp2_with fail
 refine hJ.out _ _ HK2 (fun hHeld => ?_)
 clear hJ J
 try simp only [Act.put, sQ]
 refine wpAnyH_ready (rs := [10]) (by kernel_rfl) (by simp) ?_
 refine (AllReadyH.cons rfl (fun J hJ => ?_) AllReadyH.nil)
 go_simp
 go_at_call 78
 refine (cpY ta t tn tc HT.out htn _ (HRT.out.keep HB3.out (Nat.le_refl _))).mono ?_
 rintro e v3 ⟨rfl, hrow, hbc⟩
 obtain ⟨g3, hg3⟩ : ∃ g3, v2.heap.size = g3 := ⟨_, rfl⟩
 rw [hg3] at hrow ⊢
 have hs2 : w.heap.size ≤ g3 := by rw [← hg3]; exact HB3.out.size
 have HG3 := hq (HG2.out.on hbc)
 have HB4 := bq HB3 hbc
 have HU3 : Hid (OwnU v3 w.heap.size g3 tn tn t) := by have h := RowY.ownU hrow hs2 (by have := HT.out; unfold maxLen; omega); rw [HT.out] at h; exact h
 have HK3 := row_on HK2 hbc
 clear hbc hrow HK2 HB3 HG2 hg3
 go_wp2_with fail
 refine hJ.out _ _ HK3 (fun hHeld => ?_)
 clear hJ J
 try simp only [Act.put, sQ]
 refine tkQ 13 ?_ rfl ?_ ?_
 rotate_left
 · intro w_ hSw; clear hSw; (try clear hHeld); go_simp <;> with_reducible rfl
 try simp only [Act.put, sQ]
 refine wpAnyH_ready (rs := [14]) (by kernel_rfl) (by simp) ?_
 refine (AllReadyH.cons rfl (fun J hJ => ?_) AllReadyH.nil)
 go_simp
 have HG4 : Hid (G.OwnN (v3.alloc (.cells (dR p (.slice (some ⟨g1, 0, none⟩) n n) al m (.slice (some ⟨g3, 0, none⟩) tn tn) rf) 112)) w.heap.size g1 n n l) := HG3.out.on (alM _ _)
 have HU4 : Hid (OwnU (v3.alloc (.cells (dR p (.slice (some ⟨g1, 0, none⟩) n n) al m (.slice (some ⟨g3, 0, none⟩) tn tn) rf) 112)) w.heap.size g3 tn tn t) := HU3.out.on (alM _ _)
 have HB5 : Hid (Below w.heap.size w (v3.alloc (.cells (dR p (.slice (some ⟨g1, 0, none⟩) n n) al m (.slice (some ⟨g3, 0, none⟩) tn tn) rf) 112))) := bel_on (Nat.le_refl _) HB4.out (alM _ _)
 have HX5 : Hid ((v3.alloc (.cells (dR p (.slice (some ⟨g1, 0, none⟩) n n) al m (.slice (some ⟨g3, 0, none⟩) tn tn) rf) 112)).heap[v3.heap.size]? = some (.cells (dR p (.slice (some ⟨g1, 0, none⟩) n n) al m (.slice (some ⟨g3, 0, none⟩) tn tn) rf) 112)) := heap_new v3 _
 have hs5 : w.heap.size ≤ v3.heap.size := HB4.out.size
 have HK4 := row_on HK3 (alM v3 (.cells (dR p (.slice (some ⟨g1, 0, none⟩) n n) al m (.slice (some ⟨g3, 0, none⟩) tn tn) rf) 112))
 refine hJ.out _ _ HK4 (fun hHeld => ?_)
 clear hJ J HK3 HG3 HU3 HB4
 try simp only [Act.put, sQ]
 generalize v3.alloc (.cells (dR p (.slice (some ⟨g1, 0, none⟩) n n) al m (.slice (some ⟨g3, 0, none⟩) tn tn) rf) 112) = v4 at *
 generalize v3.heap.size = k0 at *
 refine tkQ 15 ?_ rfl ?_ ?_
 rotate_left
 · intro w_ hSw; clear hSw; (try clear hHeld); go_simp <;> with_reducible rfl
 try simp only [Act.put, sQ]
 clear hHeld
 refine wpAnyH_done (by kernel_rfl) ?_ _
 go_wp2
 go_ret
 exact ⟨k0, g1, g3, rfl, HX5.out, hs5, HG4.out, HU4.out, HB5.out⟩
theorem pumpokIR (p : Pm) (h : p.ok) (w : World) : Calls Tryz.prog 58 #[p.V] w fun e w' => e = .returned (.bool true) ∧ Below w.heap.size w w' := by
 obtain ⟨s, n, d, r, l, b, g, k⟩ := p
 obtain ⟨h1, h2, h3, h4, h5, h6, h7, h8, h9⟩ := h
 dsimp only at h1 h2 h3 h4 h5 h6 h7 h8 h9
 have D1 : Hid (decide (0 ≤ s ∧ s ≤ 3) = true) := decide_eq_true h1
 have e2 : rateOk n d r = true := rat_yes h2
 have KR : Hid (∀ w, Calls Tryz.prog 112 #[.agg #[.int .i64 n, .int .i64 d, .int .i64 r]] w fun e w' => e = .returned (.bool true) ∧ Below w.heap.size w w') := fun w => by have h := rateI n d r w; rw [e2] at h; exact h
 have h2' := h2
 unfold ratR at h2'
 have hw : IntKind.i64.wrap (d * 3) = d * 3 := wrap_in (by omega) (by omega)
 have D3 := decide_eq_true (show n ≤ d * 3 by omega)
 have D4 : Hid (decide (0 ≤ l ∧ l ≤ 5000) = true) := decide_eq_true h4
 have D6 : Hid (decide (0 ≤ b ∧ b ≤ 100) = true) := decide_eq_true h6
 have D7 : Hid (decide (0 ≤ g ∧ g ≤ 1000000000000) = true) := decide_eq_true h7
 have D8 : Hid (decide ((s = 3 ∧ 0 ≤ k ∧ k ≤ 2) ∨ (¬ s = 3 ∧ k = 0)) = true) := decide_eq_true (by omega)
 by_cases h : s = 1 ∨ s = 3 ∧ k = 1
 · exact pumpokI_0t s n d r l b g k D1 KR hw D3 D4 (decide_eq_true (h5.2 h)) (decide_eq_true h) D6 D7 D8 w
 · exact pumpokI_0f s n d r l b g k D1 KR hw D3 D4 (decide_eq_false (fun e => h (h5.1 e))) (decide_eq_false h) D6 D7 D8 w
theorem isnumIR (x : Int) (hx : 0 ≤ x ∧ x ≤ 1000000000) (w : World) : Calls Tryz.prog 61 #[.int .i64 x] w fun e w' => e = .returned (.bool true) ∧ Below w.heap.size w w' := by
 go_enter Tryz.func61, Tryz.ntmps61
 go_wp2_with fail
 refine (H.holdsI 0 1000000000 x true (decide_eq_true hx) _).mono ?_
 rintro e w1 ⟨rfl, hb1⟩
 go_wp2
 go_ret
 exact ⟨rfl, hb1⟩
theorem deviceokIR (p : Pm) (a : Option Addr) (n cap : Nat) (l : List Int) (al : Int) (m : Mn) (ta : Option Addr) (tn tc : Nat) (rf : Int) (hP : p.ok) (hG : G.GdR l al) (hM : okM m = true) (h2 : (tn : Int) ≤ 200) (hrf : 0 ≤ rf ∧ rf ≤ 1000000000) (hl : l.length = n) (hn : n ≤ 9223372036854775807) (w : World) (hr : G.Rd w a l) :
  Calls Tryz.prog 18 #[.agg #[.int .i64 p.s, .int .i64 p.n, .int .i64 p.d, .int .i64 p.r, .int .i64 p.l, .int .i64 p.b, .int .i64 p.g, .int .i64 p.k, .slice a n cap, .int .i64 al, .int .i64 m.a, .bool m.b, .int .i64 m.n, .int .i64 m.d, .string ⟨m.s.toArray⟩, .slice ta tn tc, .int .i64 rf]] w fun e w' => e = .returned (.bool true) ∧ Below w.heap.size w w' := by
 have HG := hq hG
 have HP : Hid p.ok := hP
 have HM := hq hM
 have HL := hq hl
 have HRF := hq hrf
 obtain ⟨W0, hW0⟩ : ∃ W0, w.alloc (dO p (.slice a n cap) al m (.slice ta tn tc) rf) = W0 := ⟨_, rfl⟩
 have HX0 : Hid (W0.heap[w.heap.size]? = some (dO p (.slice a n cap) al m (.slice ta tn tc) rf)) := by rw [← hW0]; exact heap_new w _
 have HW0 : Hid (Below w.heap.size w W0) := by rw [← hW0]; exact (Below.refl _ _).alloc (Nat.le_refl _) _
 have HR0 : Hid (G.Rd W0 a l) := hr.keep HW0.out (Nat.le_refl _)
 have c0 := box17_cells HX0.out
 clear hG hP hM hl hr hrf
 go_enter Tryz.func18, Tryz.ntmps18
 go_upto_region 1 with fail
 (try rw [hW0])
 clear hW0
 go_wp2_with fail
 refine (pumpokIR p HP.out _).mono ?_
 rintro e w1 ⟨rfl, hb1⟩
 have HX1 := rq HX0 hb1
 have HW1 := bq HW0 hb1
 have HR1 := hq (HR0.out.keep hb1 (Nat.le_refl _))
 have c1 := box17_cells HX1.out
 clear hb1 HX0 HW0 HR0 c0
 go_wp2_with fail
 refine (G.guardokI a al l n cap true HL.out hn ⟨fun _ => HG.out, fun _ => rfl⟩ _ HR1.out).mono ?_
 rintro e w2 ⟨rfl, hb1⟩
 have HX2 := rq HX1 hb1
 have HW2 := bq HW1 hb1
 have c2 := box17_cells HX2.out
 clear hb1 HX1 HW1 HR1 c1
 go_wp2_with fail
 refine (menuokI m true HM.out _).mono ?_
 rintro e w3 ⟨rfl, hb1⟩
 have HX3 := rq HX2 hb1
 have HW3 := bq HW2 hb1
 have c3 := box17_cells HX3.out
 clear hb1 HX2 HW2 c2
 go_wp2_with fail
 refine (isnumIR rf HRF.out _).mono ?_
 rintro e w4 ⟨rfl, hb1⟩
 have HW4 := bq HW3 hb1
 clear hb1
 go_wp2
 go_ret
 exact ⟨rfl, HW4.out⟩
end Go.Proofs.YtfhhnelffldggaaGreatDoor
