/-
  Twelve numbers of 0 .. 9999; one of a list.
-/
import Derived.Test.YtbcegpncledolaaDoorGrAX
import Derived.Test.YtbcegpncledolaaDoorGrAD
namespace Go.Proofs.YtbcegpncledolaaDoor

open Go.RowKit Go.PlainAid

set_option linter.unusedVariables false

/-- all are of 0 .. 9999 -/
def Small (l : List Int) : Prop := ∀ x ∈ l, 0 ≤ x ∧ x ≤ 9999

set_option maxRecDepth 100000 in
set_option maxHeartbeats 1000000 in
theorem places17 (B : Nat) (a : Option Addr) (len cap : Nat) (w : World) (hcode : CodeOk w B a len) (hB : B ≤ w.heap.size) :
    Calls Tryd.prog 7 #[.slice a len cap] w fun e w' => ∃ (g cp : Nat) (l : List Int), e = .returned (.slice (some ⟨g, 0, none⟩) l.length cp) ∧ l.length = 12 ∧ Small l ∧ w.heap.size ≤ g ∧ (∀ j (hj : j < l.length), w'.cell? ⟨g, j, none⟩ = some (.int .i64 l[j])) ∧ Below w.heap.size w w' := by
  obtain ⟨i0, hi, hz0, hz1, hz2⟩ := info_parts info3
  have HC : Hid (CodeOk w B a len) := hcode
  clear hcode
  go_enter Tryd.func7, Tryd.ntmps7
  go_wp2_with fail
  refine (new23 B a len cap _ HC.out hB).mono ?_
  rintro e w1 ⟨C, rfl, hC, hcur, hcode, hb1⟩
  have HCu : Hid (Cur w1 C a len cap) := hcur
  have HCo : Hid (CodeOk w1 B a len) := hcode
  have s1 := hb1.size
  have hBC : B ≤ C := by omega
  clear hcur hcode
  go_wp2_with fail
  refine (byte32 C B a len cap _ HCu.out (by omega) HCo.out).mono ?_
  rintro e w2 ⟨x, rfl, x0, x1, hC1, hg1⟩
  have HD2 : Hid (Drawn w1 w2 C B a len cap) := ⟨hC1, code_grown HCo.out hg1 hBC (by omega), hg1⟩
  have s2 := hg1.size
  have hlt := cur_lt hC1
  clear hC1 hg1 HCu HCo
  have HD0 : Hid (Drawn w1 (w2.alloc (.cells #[] 3)) C B a len cap) := drawn_alloc HD2.out (by omega) _
  have how := own_empty3 w2
  clear HD2
  go_wp2
  go_loopw [4, 5] (fun v i wr => ∃ (k : Nat) (l : List Int), k ≤ 12 ∧ i = .int .i64 k ∧ Hid (l.length = k) ∧ l.length ≤ 12 ∧ Hid (Small l) ∧ Hid (Drawn w1 wr C B a len cap) ∧ Hid (w2.heap.size ≤ wr.heap.size) ∧ wr.ownsRow w2.heap.size 3 1 v l.length (intsV l)) (fun _ i _ => 12 - (intOf i).toNat)
  case atStart => exact ⟨0, [], Nat.zero_le _, rfl, (show Hid _ from rfl), by simp, (show Hid _ from fun x hx => by cases hx), HD0, (show Hid _ from by simp [Hid]), how⟩
  case round =>
    clear how HD0
    obtain ⟨k, l, hk, rfl, HX, hx, HS, HD, HZ, hown⟩ := hrel
    have hsz := HZ.out
    by_cases hlt2 : k < 12
    · go_wp2_with fail
      refine (below28 C B a len cap 10000 (by omega) (by omega) _ HD.out.1 hBC HD.out.2.1).mono ?_
      rintro e w3 ⟨y, rfl, y0, y1, hD⟩
      have hown1 := own_grown3 hown hD.2.2 hlt
      have HD1 : Hid (Drawn w1 w3 C B a len cap) := drawn_trans HD.out hD
      have s3 := hD.2.2.size
      clear hD HD hown
      go_wp2_with (at_builtin; refine wpList_append_own _ rfl _ _ 24 rfl w2.heap.size 3 i0 (.int .i64 0) 1 8 Tryd.underlying24 hi hz0 hz1 hz2 rfl (by decide) _ _ _ rfl (hown1.alloc _) ⟨w3.heap.size, 0, none⟩ 1 1 [.int .i64 y] rfl rfl ?c1 ?c2 ?c3 ?c4 ?c5 ?_)
      case c1 => exact one_cell3 w3 _ _ rfl
      case c2 => intro u hu; simp at hu; subst hu; rfl
      case c3 => unfold maxLen; omega
      case c4 => omega
      case c5 => simp; omega
      intro v' w4 hown2 hgrow _
      have hv := own_ge3 hown1
      have HD2 : Hid (Drawn w1 w4 C B a len cap) := by
        have h1 := drawn_alloc HD1.out (by omega) (.cells #[.int .i64 y] 3)
        refine ⟨cur_new (B := B) h1.1 hgrow (fun g hg => by have := hv g hg; omega), ?_, grown_new h1.2.2 hgrow (fun g hg => by have := hv g hg; omega)⟩
        exact code_below h1.2.1 ((Below.refl _ _).grown hgrow (by simp; omega) (fun g hg => by have := hv g hg; omega))
      have hown3 : w4.ownsRow w2.heap.size 3 1 v' (l ++ [y]).length (intsV (l ++ [y])) := by
        rw [show intsV (l ++ [y]) = intsV l ++ [.int .i64 y] by simp [intsV], List.length_append]
        exact hown2
      have HS' : Hid (Small (l ++ [y])) := fun u hu => by
        rcases List.mem_append.1 hu with h | h
        · exact HS.out u h
        · simp at h; subst h; omega
      have HZ' : Hid (w2.heap.size ≤ w4.heap.size) := by have := hgrow.size; simp at this; show _ ≤ _; omega
      clear hown2 hgrow hown1 HD1 hv
      go_wp2
      go_roundw
      case rel => exact ⟨k + 1, l ++ [y], by omega, by go_num, (show Hid _ from by have := HX.out; simp [Hid]; omega), by have := HX.out; simp; omega, HS', HD2, HZ', hown3⟩
      case measure => simp [intOf]; omega
    · have hl : l.length = 12 := by have := HX.out; omega
      obtain ⟨g, cp, hv, hg, hc⟩ := own_cells3 hown (by omega)
      subst hv
      have HQ : Hid (∀ j (hj : j < l.length), wr.cell? ⟨g, j, none⟩ = some (.int .i64 l[j])) := hc
      clear hown hc
      go_wp2
      go_ret
      exact ⟨g, cp, l, rfl, hl, HS.out, by omega, HQ.out, drawn_below hb1 hC HD.out⟩

/-- the numbers that were drawn, the first four by name -/
theorem places7 (B : Nat) (a : Option Addr) (len cap : Nat) (w : World) (hcode : CodeOk w B a len) (hB : B ≤ w.heap.size) :
    Calls Tryd.prog 7 #[.slice a len cap] w fun e w' => ∃ (g cp : Nat) (p0 p1 p2 p3 : Int), e = .returned (.slice (some ⟨g, 0, none⟩) 12 cp) ∧ (0 ≤ p0 ∧ p0 ≤ 9999) ∧ (0 ≤ p1 ∧ p1 ≤ 9999) ∧ (0 ≤ p2 ∧ p2 ≤ 9999) ∧ (0 ≤ p3 ∧ p3 ≤ 9999) ∧ w.heap.size ≤ g ∧ w'.cell? ⟨g, 0, none⟩ = some (.int .i64 p0) ∧ w'.cell? ⟨g, 1, none⟩ = some (.int .i64 p1) ∧ w'.cell? ⟨g, 2, none⟩ = some (.int .i64 p2) ∧ w'.cell? ⟨g, 3, none⟩ = some (.int .i64 p3) ∧ g < w'.heap.size ∧ Below w.heap.size w w' := by
  refine (places17 B a len cap w hcode hB).mono ?_
  rintro e w' ⟨g, cp, l, rfl, hl, hsm, hg, hc, hb⟩
  have c0 := hc 0 (by omega)
  refine ⟨g, cp, l[0], l[1], l[2], l[3], by rw [hl], hsm _ (List.getElem_mem _), hsm _ (List.getElem_mem _), hsm _ (List.getElem_mem _), hsm _ (List.getElem_mem _), hg, c0, hc 1 (by omega), hc 2 (by omega), hc 3 (by omega), World.block_lt_of_cell? _ _ c0, hb⟩

end Go.Proofs.YtbcegpncledolaaDoor
