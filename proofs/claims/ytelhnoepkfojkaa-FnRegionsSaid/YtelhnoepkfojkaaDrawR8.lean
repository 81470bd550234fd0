/-
  Drawn regions: right ones.
-/
import Derived.Test.YtelhnoepkfojkaaPlaces8
import Derived.Test.YtelhnoepkfojkaaRegRow8
namespace Go.Proofs.Ytelhnoepkfojkaa
open Go.RowKit Go.PlainAid
set_option linter.unusedVariables false

/-- regions one behind the other, all ahead of F -/
def Asc (rl : List (Int × Int)) (F : Int) : Prop := (∀ i (h : i < rl.length), regIn rl[i].1 rl[i].2 ∧ rl[i].1 + rl[i].2 ≤ F) ∧ ∀ i (h : i < rl.length) k (hk : k < i), (rl[k]'(by omega)).1 + (rl[k]'(by omega)).2 ≤ rl[i].1
theorem asc_nil (F : Int) : Asc [] F := ⟨fun i h => by simp at h, fun i h => by simp at h⟩
theorem asc_mono {rl : List (Int × Int)} {F G : Int} (h : Asc rl F) (hG : F ≤ G) : Asc rl G := ⟨fun i hi => ⟨(h.1 i hi).1, by have := (h.1 i hi).2; omega⟩, h.2⟩
theorem asc_add {rl : List (Int × Int)} {F s : Int} (h : Asc rl F) (hr : regIn F s) : Asc (rl ++ [(F, s)]) (F + s) := by
  have hs : 1 ≤ s := hr.2.2.1
  refine ⟨fun i hi => ?_, fun i hi k hk => ?_⟩
  · by_cases e : i < rl.length
    · rw [List.getElem_append_left e]
      exact ⟨(h.1 i e).1, by have := (h.1 i e).2; omega⟩
    · have : i = rl.length := by simp at hi; omega
      subst this
      simp
      exact hr
  · have hk' : k < rl.length := by simp at hi; omega
    rw [List.getElem_append_left hk']
    by_cases e : i < rl.length
    · rw [List.getElem_append_left e]
      exact h.2 i e k hk
    · have : i = rl.length := by simp at hi; omega
      subst this
      simp
      exact (h.1 k hk').2
theorem asc_ok {rl : List (Int × Int)} {F : Int} (h : Asc rl F) (h1 : 1 ≤ rl.length) (h4 : rl.length ≤ 4) : RegsOk rl :=
  ⟨h1, h4, fun i hi => (h.1 i hi).1, fun i hi k hk => .inr (h.2 i hi k hk)⟩

theorem own_gr {w w' : World} {B C e z n : Nat} {v : Value} {xs : List Value} (h : w.ownsRow B e z v n xs) (hg : w.grownBy w' (some C)) (hC : C < B) : w'.ownsRow B e z v n xs :=
  h.kept hg (by
    cases hv : v.ownBlock with
    | none => exact .inl rfl
    | some g => exact .inr (fun e => by cases e; have := own_ge h C hv; omega))
theorem row_drawn {W W' : World} {k C : Nat} {o : Obj} (h : W.heap[k]? = some o) (hg : W.grownBy W' (some C)) (hk : k ≠ C) : W'.heap[k]? = some o :=
  (hg.block k (row_lt h) (fun e => by cases e; exact hk rfl)).trans h
theorem own_emptyR (w : World) (B : Nat) (hB : B ≤ w.heap.size) : (w.alloc (.cells #[] 31)).ownsRow B 31 2 (.slice (some ⟨w.heap.size, 0, none⟩) 0 0) 0 (regsV []) :=
  ⟨rfl, Or.inr ⟨_, 0, #[], rfl, hB, by show (w.heap.push _)[w.heap.size]? = _; simp, Nat.le_refl _, by decide, rfl, rfl⟩⟩
theorem two_cellR (wr : World) (x y : Value) (a : Addr) (ha : a = ⟨wr.heap.size, 0, none⟩) : ∀ j u, [x, y][j]? = some u → (wr.alloc (.cells #[x, y] 31)).cell? (a.add j) = some u := by
  intro j u hj
  subst ha
  match j, hj with
  | 0, hj => simp at hj; subst hj; simp [Addr.add]
  | 1, hj => simp at hj; subst hj; simp [Addr.add]
/-- what is appended to new memory, behind a draw -/
theorem drawn_grown {w W W' : World} {C B : Nat} {a : Option Addr} {len cap : Nat} {v : Value} (h : Drawn w W C B a len cap) (hg : W.grownBy W' v.ownBlock) (hv : ∀ g, v.ownBlock = some g → w.heap.size ≤ g) (hC : C < w.heap.size) (hB : B ≤ w.heap.size) : Drawn w W' C B a len cap :=
  ⟨cur_new (B := B) h.1 hg (fun g e => by have := hv g e; omega), code_below h.2.1 ((Below.refl _ _).grown hg (Nat.le_trans hB h.2.2.size) (fun g e => by have := hv g e; omega)), grown_new h.2.2 hg hv⟩

theorem drawn_drew {w W : World} {C B : Nat} {a : Option Addr} {len cap : Nat} (h : Drawn w W C B a len cap) : Drawn w W.drew C B a len cap :=
  ⟨h.1, h.2.1, ⟨h.2.2.os, h.2.2.tape, h.2.2.output, h.2.2.size, h.2.2.block⟩⟩
/-- what stands while a next region is drawn -/
def DS (w W : World) (C B : Nat) (a : Option Addr) (len cap : Nat) (v : Value) (rl : List (Int × Int)) (k : Nat) (x y : Value) : Prop := Drawn w W C B a len cap ∧ W.ownsRow w.heap.size 31 2 v rl.length (regsV rl) ∧ W.heap[k]? = some (.cells #[x, y] 31) ∧ C < w.heap.size ∧ w.heap.size ≤ k
theorem ds_conj {w W : World} {C B : Nat} {a : Option Addr} {len cap : Nat} {v : Value} {rl : List (Int × Int)} {k : Nat} {x y : Value} (h : DS w W C B a len cap v rl k x y) : W.cell? ⟨k, 0, none⟩ = some x ∧ W.cell? ⟨k, 1, none⟩ = some y ∧ DS w W C B a len cap v rl k x y :=
  ⟨(row2_cells h.2.2.1).1, (row2_cells h.2.2.1).2.1, h⟩
theorem DS.on {w W W' : World} {C B : Nat} {a : Option Addr} {len cap : Nat} {v : Value} {rl : List (Int × Int)} {k : Nat} {x y : Value} (h : DS w W C B a len cap v rl k x y) (hD : Drawn W W' C B a len cap) : DS w W' C B a len cap v rl k x y :=
  ⟨drawn_trans h.1 hD, own_gr h.2.1 hD.2.2 h.2.2.2.1, row_drawn h.2.2.1 hD.2.2 (by have := h.2.2.2.1; have := h.2.2.2.2; omega), h.2.2.2.1, h.2.2.2.2⟩
theorem DS.drew {w W : World} {C B : Nat} {a : Option Addr} {len cap : Nat} {v : Value} {rl : List (Int × Int)} {k : Nat} {x y : Value} (h : DS w W C B a len cap v rl k x y) : DS w W.drew C B a len cap v rl k x y := ⟨drawn_drew h.1, h.2⟩
theorem ds_keep {w W W' : World} {C B : Nat} {a : Option Addr} {len cap : Nat} {v : Value} {rl : List (Int × Int)} {k : Nat} {x y : Value} (hD : Drawn W W' C B a len cap) (h : W.cell? ⟨k, 0, none⟩ = some x ∧ W.cell? ⟨k, 1, none⟩ = some y ∧ DS w W C B a len cap v rl k x y) : W'.cell? ⟨k, 0, none⟩ = some x ∧ W'.cell? ⟨k, 1, none⟩ = some y ∧ DS w W' C B a len cap v rl k x y := ds_conj (h.2.2.on hD)
theorem ds_cur {w W : World} {C B : Nat} {a : Option Addr} {len cap : Nat} {v : Value} {rl : List (Int × Int)} {k : Nat} {x y : Value} (h : W.cell? ⟨k, 0, none⟩ = some x ∧ W.cell? ⟨k, 1, none⟩ = some y ∧ DS w W C B a len cap v rl k x y) : Cur W C a len cap ∧ CodeOk W B a len := ⟨h.2.2.1.1, h.2.2.1.2.1⟩

set_option maxRecDepth 100000 in
set_option maxHeartbeats 2000000 in
theorem regions (C B : Nat) (a : Option Addr) (len cap : Nat) (w : World) (hC : Cur w C a len cap) (hB : B ≤ C) (hcode : CodeOk w B a len) :
    Calls Try.prog 44 #[.pointer (some ⟨C, 0, none⟩)] w fun e w' => ∃ (v : Value) (rl : List (Int × Int)), e = .returned v ∧ RegsOk rl ∧ w'.ownsRow w.heap.size 31 2 v rl.length (regsV rl) ∧ Drawn w w' C B a len cap := by
  obtain ⟨i0, hi, hz0, hz1, hz2⟩ := info_parts infoR
  have hlt := cur_lt hC
  have HD0 : Hid (Drawn w (w.alloc (.cells #[] 31)) C B a len cap) := drawn_alloc ⟨hC, hcode, World.grownBy.refl _ _⟩ (by omega) _
  have HO0 : Hid (World.ownsRow _ _ _ _ _ _ _) := own_emptyR w w.heap.size (Nat.le_refl _)
  clear hC hcode
  go_enter Try.func44, Try.ntmps44
  go_wp2_with fail
  refine (below28 C B a len cap 6 (by omega) (by omega) _ HD0.out.1 hB HD0.out.2.1).mono ?_
  rintro e w1 ⟨F0, rfl, f0, f1, hD⟩
  have HD1 : Hid (Drawn w w1 C B a len cap) := drawn_trans HD0.out hD
  have HO1 : Hid (w1.ownsRow w.heap.size 31 2 (.slice (some ⟨w.heap.size, 0, none⟩) 0 0) 0 (regsV [])) := own_gr HO0.out hD.2.2 hlt
  clear hD HD0 HO0
  go_wp2
  go_loopg [3, 4, 5] 4 (fun gk v fv iv wr => ∃ (i c : Nat) (F : Int) (rl : List (Int × Int)) (q : Option Addr), i + gk = 4 ∧ iv = .int .i64 i ∧ fv = .int .i64 F ∧ 0 ≤ F ∧ F ≤ 5 + 16 * i ∧ v = .slice q rl.length c ∧ rl.length ≤ i ∧ Hid (1 ≤ i → 1 ≤ rl.length) ∧ Hid (Asc rl F) ∧ Hid (wr.ownsRow w.heap.size 31 2 (.slice q rl.length c) rl.length (regsV rl)) ∧ Hid (Drawn w wr C B a len cap))
  case atStart => exact ⟨0, 0, F0, [], some ⟨w.heap.size, 0, none⟩, by omega, rfl, rfl, f0, by omega, rfl, by simp, (fun h => by omega), asc_nil _, HO1, HD1⟩
  case round =>
    clear HD1 HO1
    obtain ⟨i, c, F, rl, q, hi4, rfl, rfl, hF0, hF1, rfl, hrl, H1, HA, HO, HD⟩ := hrel
    go_wp2_with fail
    refine (below28 C B a len cap 4 (by omega) (by omega) _ HD.out.1 hB HD.out.2.1).mono ?_
    rintro e w2 ⟨x, rfl, x0, x1, hD⟩
    have HD2 : Hid (Drawn w w2 C B a len cap) := drawn_trans HD.out hD
    have HO2 : Hid (w2.ownsRow w.heap.size 31 2 (.slice q rl.length c) rl.length (regsV rl)) := own_gr HO.out hD.2.2 hlt
    clear hD HD HO
    by_cases hx : (i : Int) < 1 + x
    · have hi3 : i ≤ 3 := by omega
      go_wp2_with fail
      refine (below28 C B a len cap 14 (by omega) (by omega) _ HD2.out.1 hB HD2.out.2.1).mono ?_
      rintro e w3 ⟨y, rfl, y0, y1, hD⟩
      have HD3 : Hid (Drawn w w3 C B a len cap) := drawn_trans HD2.out hD
      have HO3 : Hid (w3.ownsRow w.heap.size 31 2 (.slice q rl.length c) rl.length (regsV rl)) := own_gr HO2.out hD.2.2 hlt
      have s3 := HD3.out.2.2.size
      clear hD HD2 HO2
      have HDa : Hid (Drawn w (w3.alloc (.cells #[.int .i64 F, .int .i64 (1 + y)] 31)) C B a len cap) := drawn_alloc HD3.out (by omega) _
      have HOa : Hid ((w3.alloc (.cells #[.int .i64 F, .int .i64 (1 + y)] 31)).ownsRow w.heap.size 31 2 (.slice q rl.length c) rl.length (regsV rl)) := HO3.out.alloc _
      have HBa : Hid ((w3.alloc (.cells #[.int .i64 F, .int .i64 (1 + y)] 31)).heap[w3.heap.size]? = _) := heap_new w3 _
      have HQ : Hid (∀ g, (Value.slice q rl.length c).ownBlock = some g → g < w3.heap.size) := own_lt HO3.out
      clear HD3 HO3
      by_cases hfit : F + (1 + y) ≤ 64
      · have HA' : Hid (Asc (rl ++ [(F, 1 + y)]) (F + (1 + y))) := asc_add HA.out ⟨hF0, by omega, by omega, by omega⟩
        have hown := HOa.out.alloc (.cells #[.int .i64 F, .int .i64 (1 + y)] 31)
        go_wp2_with (at_builtin; refine wpList_append_own _ rfl _ _ 44 rfl w.heap.size 31 i0 (.agg #[.int .i64 0, .int .i64 0]) 2 16 Try.underlying44 hi hz0 hz1 hz2 rfl (by decide) _ _ _ rfl hown ⟨w3.heap.size + 1, 0, none⟩ 1 1 [.int .i64 F, .int .i64 (1 + y)] rfl rfl ?c1 ?c2 ?c3 ?c4 ?c5 ?_)
        case c1 => exact two_cellR _ _ _ _ (by simp)
        case c2 => intro u hu; simp at hu; rcases hu with rfl | rfl <;> rfl
        case c3 => unfold maxLen; omega
        case c4 => omega
        case c5 => simp; omega
        intro v' w5 hown5 hgrow _
        have HD5 : Hid (Drawn w w5 C B a len cap) := drawn_grown (drawn_alloc HDa.out (by simp; omega) _) hgrow (own_ge HOa.out) hlt (by omega)
        have HB5 : Hid (w5.heap[w3.heap.size]? = some (.cells #[.int .i64 F, .int .i64 (1 + y)] 31)) := grown_row hgrow ((Below.heap_alloc _ _ _ (by simp)).trans HBa.out) (fun e => by have := HQ.out _ e; omega)
        obtain ⟨q', c', hv⟩ := own_shape hown5
        subst hv
        have HL5 : Hid ((rl ++ [(F, 1 + y)]).length = rl.length + 1) := by show _ = _; simp
        have HO5 : Hid (w5.ownsRow w.heap.size 31 2 (.slice q' (rl ++ [(F, 1 + y)]).length c') (rl ++ [(F, 1 + y)]).length (regsV (rl ++ [(F, 1 + y)]))) := by
          rw [HL5.out, regsV_append]
          exact hown5
        have HS : Hid (DS w w5 C B a len cap (.slice q' (rl ++ [(F, 1 + y)]).length c') (rl ++ [(F, 1 + y)]) w3.heap.size (.int .i64 F) (.int .i64 (1 + y))) := ⟨HD5.out, HO5.out, HB5.out, hlt, s3⟩
        obtain ⟨G, q1, HG⟩ : ∃ G, IntKind.i64.wrap (F + (1 + y)) = G ∧ Hid (G = F + (1 + y)) := ⟨F + (1 + y), wrap_in (by omega) (by omega), rfl⟩
        have hG0 : 0 ≤ G := by have := HG.out; omega
        have hG1 : G ≤ 64 := by have := HG.out; omega
        have hG2 : G ≤ 5 + 16 * i + 14 := by have := HG.out; omega
        clear hown hown5 hgrow HD5 HB5 HO5 HDa HOa HBa
        go_wp2_with fail
        go_region_held3 (fun w' => w'.cell? ⟨w3.heap.size, 0, none⟩ = some (.int .i64 F) ∧ w'.cell? ⟨w3.heap.size, 1, none⟩ = some (.int .i64 (1 + y)) ∧ DS w w' C B a len cap (.slice q' (rl ++ [(F, 1 + y)]).length c') (rl ++ [(F, 1 + y)]) w3.heap.size (.int .i64 F) (.int .i64 (1 + y))) (first | (refine ds_keep (by assumption) ?_; assumption) | (exact ds_conj HS.out.drew)) (first | (go_at_call 47; refine (below28 C B a len cap 3 (by omega) (by omega) _ ?_ hB ?_).mono ?_; (exact (ds_cur (by assumption)).1); (exact (ds_cur (by assumption)).2); rintro e w6 ⟨z, rfl, z0, z1, hD⟩; have q2 : IntKind.i64.wrap (G + z) = G + z := wrap_in (by omega) (by omega)))
        rename_i HH
        have HS6 : Hid (DS _ _ _ _ _ _ _ _ _ _ _ _) := HH.2.2
        clear HH hD HS
        go_wp2
        go_roundg (gk - 1)
        case measure => omega
        case rel => exact ⟨i + 1, c', G + z, rl ++ [(F, 1 + y)], q', by omega, by go_num, rfl, by omega, by omega, by rw [HL5.out], by rw [HL5.out]; omega, (fun _ => by rw [HL5.out]; omega), asc_mono HA'.out (by have := HG.out; omega), HS6.out.2.1, HS6.out.1⟩
      · have HN1 : Hid (1 ≤ rl.length) := H1.out (by omega)
        have HS : Hid (DS w _ C B a len cap (.slice q rl.length c) rl w3.heap.size (.int .i64 F) (.int .i64 (1 + y))) := ⟨HDa.out, HOa.out, HBa.out, hlt, s3⟩
        obtain ⟨G, q1, HG⟩ : ∃ G, IntKind.i64.wrap (F + (1 + y)) = G ∧ Hid (G = F + (1 + y)) := ⟨F + (1 + y), wrap_in (by omega) (by omega), rfl⟩
        have hG0 : 0 ≤ G := by have := HG.out; omega
        have hG1 : G ≤ 100 := by have := HG.out; omega
        have hGf : ¬ G ≤ 64 := by have := HG.out; omega
        have hG2 : G ≤ 5 + 16 * i + 14 := by have := HG.out; omega
        clear HDa HOa HBa
        go_wp2_with fail
        go_region_held3 (fun w' => w'.cell? ⟨w3.heap.size, 0, none⟩ = some (.int .i64 F) ∧ w'.cell? ⟨w3.heap.size, 1, none⟩ = some (.int .i64 (1 + y)) ∧ DS w w' C B a len cap (.slice q rl.length c) rl w3.heap.size (.int .i64 F) (.int .i64 (1 + y))) (first | (refine ds_keep (by assumption) ?_; assumption) | (exact ds_conj HS.out.drew)) (first | (go_at_call 47; refine (below28 C B a len cap 3 (by omega) (by omega) _ ?_ hB ?_).mono ?_; (exact (ds_cur (by assumption)).1); (exact (ds_cur (by assumption)).2); rintro e w6 ⟨z, rfl, z0, z1, hD⟩; have q2 : IntKind.i64.wrap (G + z) = G + z := wrap_in (by omega) (by omega)))
        rename_i HH
        have HS6 : Hid (DS _ _ _ _ _ _ _ _ _ _ _ _) := HH.2.2
        clear HH hD HS
        go_wp2
        go_roundg (gk - 1)
        case measure => omega
        case rel => exact ⟨i + 1, c, G + z, rl, q, by omega, by go_num, rfl, by omega, by omega, rfl, by omega, (fun _ => HN1.out), asc_mono HA.out (by have := HG.out; omega), HS6.out.2.1, HS6.out.1⟩
    · have HK : Hid (RegsOk rl) := asc_ok HA.out (H1.out (by omega)) (by omega)
      go_wp2
      go_ret
      exact ⟨_, rl, rfl, HK.out, HO2.out, HD2.out⟩
end Go.Proofs.Ytelhnoepkfojkaa
