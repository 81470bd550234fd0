/-
  The program's lists of a set-up read: readList.
-/
import Derived.Test.YtadbekhekggpkaaGreatDoorZB
import Derived.Test.YtadbekhekggpkaaGreatDoorReadN
import Derived.Test.YtadbekhekggpkaaGreatDoorZC
import Derived.Test.YtadbekhekggpkaaGreatDoorRS11
namespace Go.Proofs.YtadbekhekggpkaaGreatDoor
open Go.RowKit Go.PlainAid
set_option linter.unusedVariables false

theorem own_keepC {W W' : World} {B T z n C : Nat} {v : Value} {xs : List Value} (h : W.ownsRow B T z v n xs) (hC : C < B) (hg : W.grownBy W' (some C)) : W'.ownsRow B T z v n xs :=
  h.kept hg (by
    cases hv : v.ownBlock with
    | none => exact .inl rfl
    | some g => exact .inr (fun e' => by cases e'; have := own_ge12 h C hv; omega))
theorem grown_app13 {w W W' : World} {C : Nat} {e : Option Nat} (h : w.grownBy W (some C)) (hg : W.grownBy W' e) (he : ∀ g, e = some g → w.heap.size ≤ g) : w.grownBy W' (some C) :=
  ⟨hg.os.trans h.os, hg.tape.trans h.tape, hg.output.trans h.output, Nat.le_trans h.size hg.size, fun m hm hne => (hg.block m (Nat.lt_of_lt_of_le hm h.size) (fun e' => by have := he m e'.symm; omega)).trans (h.block m hm hne)⟩
theorem grown_al13 {w W : World} {C : Nat} (h : w.grownBy W (some C)) (o : Obj) : w.grownBy (W.alloc o) (some C) := grown_more h (World.grownBy_alloc _ _ _)
theorem rdL_zero {α : Type} (f : Nat → Option (α × Nat)) (c : Nat) (xs : List α) : ((rdL f 0 c).bind fun q => some (xs ++ q.1, q.2)) = some (xs, c) := by simp [rdL]
theorem rdL_none {α : Type} {f : Nat → Option (α × Nat)} {g c : Nat} {xs : List α} (h : f c = none) : ((rdL f (g + 1) c).bind fun q => some (xs ++ q.1, q.2)) = none := by simp [rdL, h]
theorem rdL_some {α : Type} {f : Nat → Option (α × Nat)} {g c d : Nat} {xs : List α} {x : α} (h : f c = some (x, d)) : ((rdL f (g + 1) c).bind fun q => some (xs ++ q.1, q.2)) = ((rdL f g d).bind fun q => some ((xs ++ [x]) ++ q.1, q.2)) := by
  simp only [rdL, h, Option.bind_some]
  cases rdL f g d with
  | none => rfl
  | some q => simp
theorem rdL_start {α : Type} (f : Nat → Option (α × Nat)) (n a : Nat) : rdL f n a = ((rdL f n a).bind fun q => some ([] ++ q.1, q.2)) := by
  cases rdL f n a with
  | none => rfl
  | some q => simp

set_option maxRecDepth 100000 in
set_option maxHeartbeats 2000000 in
theorem list_region (C : Nat) (t : ByteArray) (a n : Nat) (ht : t.size ≤ 1048576) (hn : n ≤ 100) (w : World) (hC : RdrX w C t a) :
    Calls Tryz.prog 87 #[.int .i64 (n : Int), .func (.func 89) #[.pointer (some ⟨C, 0, none⟩)] #[]] w fun e w' =>
      (∃ (l : List (Int × Int)) (c : Nat) (q : Option Addr) (cp : Nat), e = .returned (.slice q n cp) ∧ rdL (rdP t) n a = some (l, c) ∧ w'.ownsRow w.heap.size 48 2 (.slice q n cp) n (R.regsV l) ∧ RdrX w' C t c ∧ w.grownBy w' (some C)) ∨
      (e = .panicked [unr] ∧ rdL (rdP t) n a = none ∧ w.grownBy w' (some C)) := by
  obtain ⟨i0, hi, hz0, hz1, hz2⟩ := info_parts R.infoR
  have hCl : C < w.heap.size := row_lt hC
  have HC : Hid (RdrX w C t a) := hC
  have HO : Hid (w.ownsRow w.heap.size 48 2 (.slice none 0 0) 0 (R.regsV [])) := World.ownsRow_nil _ _ _ _
  have HG : Hid (w.grownBy w (some C)) := World.grownBy.refl _ _
  have HR : Hid (rdL (rdP t) n a = ((rdL (rdP t) n a).bind fun q => some ([] ++ q.1, q.2))) := rdL_start _ _ _
  clear hC
  go_enter Tryz.func87, Tryz.ntmps87
  go_wp2
  go_loopg [5, 7] n (fun gk v i wr => ∃ (j cp d : Nat) (q : Option Addr) (l : List (Int × Int)), j + gk = n ∧ v = .slice q j cp ∧ i = .int .i64 j ∧ Hid (wr.ownsRow w.heap.size 48 2 (.slice q j cp) j (R.regsV l)) ∧ Hid (RdrX wr C t d) ∧ Hid (w.grownBy wr (some C)) ∧ Hid (rdL (rdP t) n a = ((rdL (rdP t) gk d).bind fun q => some (l ++ q.1, q.2))))
  case atStart => exact ⟨0, 0, a, none, [], by omega, rfl, rfl, HO, HC, HG, HR⟩
  case round =>
    clear HO HC HG HR
    obtain ⟨j, cp, d, q, l, hj, rfl, rfl, HO, HC, HG, HR⟩ := hrel
    by_cases hlt : j < n
    · obtain ⟨g, rfl⟩ : ∃ g, gk = g + 1 := ⟨gk - 1, by omega⟩
      rcases hx : rdP t d with _ | ⟨⟨x0, x1⟩, d'⟩
      · have HN : Hid (rdL (rdP t) n a = none) := by show _ = _; rw [HR.out]; exact rdL_none hx
        have K : Hid (∀ w, RdrX w C t d → Calls Tryz.prog 89 #[.pointer (some ⟨C, 0, none⟩)] w fun e w' => e = .panicked [unr] ∧ w.grownBy w' (some C)) := region_no C t d ht hx
        clear hx HR
        go_wp2_with fail
        refine (K.out _ HC.out).mono ?_
        rintro e w1 ⟨rfl, hg⟩
        have HG1 : Hid (w.grownBy w1 (some C)) := grown_more HG.out hg
        clear hg HC HG HO K
        go_wp2
        exact ⟨rfl, .inr ⟨rfl, HN.out, HG1.out⟩⟩
      · have HR' : Hid (rdL (rdP t) n a = ((rdL (rdP t) g d').bind fun q => some ((l ++ [(x0, x1)]) ++ q.1, q.2))) := by show _ = _; rw [HR.out]; exact rdL_some hx
        have K : Hid (∀ w, RdrX w C t d → Calls Tryz.prog 89 #[.pointer (some ⟨C, 0, none⟩)] w fun e w' => e = .returned (.agg #[.int .i64 x0, .int .i64 x1]) ∧ RdrX w' C t d' ∧ w.grownBy w' (some C)) := region_ok C t d x0 x1 d' ht hx
        clear hx HR
        go_wp2_with fail
        refine (K.out _ HC.out).mono ?_
        rintro e w1 ⟨rfl, hC1, hg⟩
        have HG1 : Hid (w.grownBy (w1.alloc (.cells #[.int .i64 x0, .int .i64 x1] 48)) (some C)) := grown_al13 (grown_more HG.out hg) _
        have HC1 : Hid (RdrX (w1.alloc (.cells #[.int .i64 x0, .int .i64 x1] 48)) C t d') := hC1.on ((Below.refl _ _).alloc (Nat.le_refl _) _)
        have hown : (w1.alloc (.cells #[.int .i64 x0, .int .i64 x1] 48)).ownsRow w.heap.size 48 2 (.slice q j cp) j (R.regsV l) := (own_keepC HO.out hCl hg).alloc _
        have hsz := HG1.out.size
        have HOW := own_ge12 hown
        clear hg hC1 HG HC HO K
        go_wp2_with (at_builtin; refine wpList_append_own _ rfl _ _ 24 rfl w.heap.size 48 i0 (.agg #[.int .i64 0, .int .i64 0]) 2 16 Tryz.underlying24 hi hz0 hz1 hz2 rfl (by decide) _ _ _ rfl hown ⟨w1.heap.size, 0, none⟩ 1 1 [.int .i64 x0, .int .i64 x1] rfl rfl ?c1 ?c2 ?c3 ?c4 ?c5 ?_)
        case c1 => exact cell_k (by simp)
        case c2 => intro u hu; simp at hu; rcases hu with rfl | rfl <;> rfl
        case c3 => unfold maxLen; omega
        case c4 => omega
        case c5 => exact hsz
        intro v' w2 hown' hgrow _
        obtain ⟨q', c', hv⟩ := own_shapeW hown'
        subst hv
        have HO2 : Hid (w2.ownsRow w.heap.size 48 2 (.slice q' (j + 1) c') (j + 1) (R.regsV (l ++ [(x0, x1)]))) := by show World.ownsRow _ _ _ _ _ _ _; rw [R.regsV_append]; exact hown'
        have HC2 : Hid (RdrX w2 C t d') := row_gr12 hgrow HC1.out (fun e => by have := HOW C e; omega)
        have HG2 : Hid (w.grownBy w2 (some C)) := grown_app13 HG1.out hgrow HOW
        clear hown hown' hgrow HC1 HG1 HOW hsz
        go_wp2
        go_roundg g
        case measure => omega
        case rel => exact ⟨j + 1, c', d', q', l ++ [(x0, x1)], by omega, rfl, by go_num, HO2, HC2, HG2, HR'⟩
    · obtain rfl : gk = 0 := by omega
      obtain rfl : j = n := by omega
      have HN : Hid (rdL (rdP t) j a = some (l, d)) := by show _ = _; rw [HR.out]; exact rdL_zero _ _ _
      clear HR
      go_wp2
      go_ret
      exact .inl ⟨l, d, q, cp, rfl, HN.out, HO.out, HC.out, HG.out⟩

set_option maxRecDepth 100000 in
set_option maxHeartbeats 2000000 in
theorem list_window (C : Nat) (t : ByteArray) (a n : Nat) (ht : t.size ≤ 1048576) (hn : n ≤ 100) (w : World) (hC : RdrX w C t a) :
    Calls Tryz.prog 90 #[.int .i64 (n : Int), .func (.func 91) #[.pointer (some ⟨C, 0, none⟩)] #[]] w fun e w' =>
      (∃ (l : List (Int × Int)) (c : Nat) (q : Option Addr) (cp : Nat), e = .returned (.slice q n cp) ∧ rdL (rdP t) n a = some (l, c) ∧ w'.ownsRow w.heap.size 50 2 (.slice q n cp) n (regsV l) ∧ RdrX w' C t c ∧ w.grownBy w' (some C)) ∨
      (e = .panicked [unr] ∧ rdL (rdP t) n a = none ∧ w.grownBy w' (some C)) := by
  obtain ⟨i0, hi, hz0, hz1, hz2⟩ := info_parts infoR
  have hCl : C < w.heap.size := row_lt hC
  have HC : Hid (RdrX w C t a) := hC
  have HO : Hid (w.ownsRow w.heap.size 50 2 (.slice none 0 0) 0 (regsV [])) := World.ownsRow_nil _ _ _ _
  have HG : Hid (w.grownBy w (some C)) := World.grownBy.refl _ _
  have HR : Hid (rdL (rdP t) n a = ((rdL (rdP t) n a).bind fun q => some ([] ++ q.1, q.2))) := rdL_start _ _ _
  clear hC
  go_enter Tryz.func90, Tryz.ntmps90
  go_wp2
  go_loopg [5, 7] n (fun gk v i wr => ∃ (j cp d : Nat) (q : Option Addr) (l : List (Int × Int)), j + gk = n ∧ v = .slice q j cp ∧ i = .int .i64 j ∧ Hid (wr.ownsRow w.heap.size 50 2 (.slice q j cp) j (regsV l)) ∧ Hid (RdrX wr C t d) ∧ Hid (w.grownBy wr (some C)) ∧ Hid (rdL (rdP t) n a = ((rdL (rdP t) gk d).bind fun q => some (l ++ q.1, q.2))))
  case atStart => exact ⟨0, 0, a, none, [], by omega, rfl, rfl, HO, HC, HG, HR⟩
  case round =>
    clear HO HC HG HR
    obtain ⟨j, cp, d, q, l, hj, rfl, rfl, HO, HC, HG, HR⟩ := hrel
    by_cases hlt : j < n
    · obtain ⟨g, rfl⟩ : ∃ g, gk = g + 1 := ⟨gk - 1, by omega⟩
      rcases hx : rdP t d with _ | ⟨⟨x0, x1⟩, d'⟩
      · have HN : Hid (rdL (rdP t) n a = none) := by show _ = _; rw [HR.out]; exact rdL_none hx
        have K : Hid (∀ w, RdrX w C t d → Calls Tryz.prog 91 #[.pointer (some ⟨C, 0, none⟩)] w fun e w' => e = .panicked [unr] ∧ w.grownBy w' (some C)) := window_no C t d ht hx
        clear hx HR
        go_wp2_with fail
        refine (K.out _ HC.out).mono ?_
        rintro e w1 ⟨rfl, hg⟩
        have HG1 : Hid (w.grownBy w1 (some C)) := grown_more HG.out hg
        clear hg HC HG HO K
        go_wp2
        exact ⟨rfl, .inr ⟨rfl, HN.out, HG1.out⟩⟩
      · have HR' : Hid (rdL (rdP t) n a = ((rdL (rdP t) g d').bind fun q => some ((l ++ [(x0, x1)]) ++ q.1, q.2))) := by show _ = _; rw [HR.out]; exact rdL_some hx
        have K : Hid (∀ w, RdrX w C t d → Calls Tryz.prog 91 #[.pointer (some ⟨C, 0, none⟩)] w fun e w' => e = .returned (.agg #[.int .i64 x0, .int .i64 x1]) ∧ RdrX w' C t d' ∧ w.grownBy w' (some C)) := window_ok C t d x0 x1 d' ht hx
        clear hx HR
        go_wp2_with fail
        refine (K.out _ HC.out).mono ?_
        rintro e w1 ⟨rfl, hC1, hg⟩
        have HG1 : Hid (w.grownBy (w1.alloc (.cells #[.int .i64 x0, .int .i64 x1] 50)) (some C)) := grown_al13 (grown_more HG.out hg) _
        have HC1 : Hid (RdrX (w1.alloc (.cells #[.int .i64 x0, .int .i64 x1] 50)) C t d') := hC1.on ((Below.refl _ _).alloc (Nat.le_refl _) _)
        have hown : (w1.alloc (.cells #[.int .i64 x0, .int .i64 x1] 50)).ownsRow w.heap.size 50 2 (.slice q j cp) j (regsV l) := (own_keepC HO.out hCl hg).alloc _
        have hsz := HG1.out.size
        have HOW := own_ge12 hown
        clear hg hC1 HG HC HO K
        go_wp2_with (at_builtin; refine wpList_append_own _ rfl _ _ 25 rfl w.heap.size 50 i0 (.agg #[.int .i64 0, .int .i64 0]) 2 16 Tryz.underlying25 hi hz0 hz1 hz2 rfl (by decide) _ _ _ rfl hown ⟨w1.heap.size, 0, none⟩ 1 1 [.int .i64 x0, .int .i64 x1] rfl rfl ?c1 ?c2 ?c3 ?c4 ?c5 ?_)
        case c1 => exact cell_k (by simp)
        case c2 => intro u hu; simp at hu; rcases hu with rfl | rfl <;> rfl
        case c3 => unfold maxLen; omega
        case c4 => omega
        case c5 => exact hsz
        intro v' w2 hown' hgrow _
        obtain ⟨q', c', hv⟩ := own_shapeW hown'
        subst hv
        have HO2 : Hid (w2.ownsRow w.heap.size 50 2 (.slice q' (j + 1) c') (j + 1) (regsV (l ++ [(x0, x1)]))) := by show World.ownsRow _ _ _ _ _ _ _; rw [regsV_append]; exact hown'
        have HC2 : Hid (RdrX w2 C t d') := row_gr12 hgrow HC1.out (fun e => by have := HOW C e; omega)
        have HG2 : Hid (w.grownBy w2 (some C)) := grown_app13 HG1.out hgrow HOW
        clear hown hown' hgrow HC1 HG1 HOW hsz
        go_wp2
        go_roundg g
        case measure => omega
        case rel => exact ⟨j + 1, c', d', q', l ++ [(x0, x1)], by omega, rfl, by go_num, HO2, HC2, HG2, HR'⟩
    · obtain rfl : gk = 0 := by omega
      obtain rfl : j = n := by omega
      have HN : Hid (rdL (rdP t) j a = some (l, d)) := by show _ = _; rw [HR.out]; exact rdL_zero _ _ _
      clear HR
      go_wp2
      go_ret
      exact .inl ⟨l, d, q, cp, rfl, HN.out, HO.out, HC.out, HG.out⟩

set_option maxRecDepth 100000 in
set_option maxHeartbeats 2000000 in
theorem list_port (C : Nat) (t : ByteArray) (a n : Nat) (ht : t.size ≤ 1048576) (hn : n ≤ 100) (w : World) (hC : RdrX w C t a) :
    Calls Tryz.prog 92 #[.int .i64 (n : Int), .func (.func 93) #[.pointer (some ⟨C, 0, none⟩)] #[]] w fun e w' =>
      (∃ (l : List Prt) (c : Nat) (q : Option Addr) (cp : Nat), e = .returned (.slice q n cp) ∧ rdL (rdO t) n a = some (l, c) ∧ w'.ownsRow w.heap.size 52 5 (.slice q n cp) n (prtV l) ∧ RdrX w' C t c ∧ w.grownBy w' (some C)) ∨
      (e = .panicked [unr] ∧ rdL (rdO t) n a = none ∧ w.grownBy w' (some C)) := by
  obtain ⟨i0, hi, hz0, hz1, hz2⟩ := info_parts infoO
  have hCl : C < w.heap.size := row_lt hC
  have HC : Hid (RdrX w C t a) := hC
  have HO : Hid (w.ownsRow w.heap.size 52 5 (.slice none 0 0) 0 (prtV [])) := World.ownsRow_nil _ _ _ _
  have HG : Hid (w.grownBy w (some C)) := World.grownBy.refl _ _
  have HR : Hid (rdL (rdO t) n a = ((rdL (rdO t) n a).bind fun q => some ([] ++ q.1, q.2))) := rdL_start _ _ _
  clear hC
  go_enter Tryz.func92, Tryz.ntmps92
  go_wp2
  go_loopg [5, 7] n (fun gk v i wr => ∃ (j cp d : Nat) (q : Option Addr) (l : List Prt), j + gk = n ∧ v = .slice q j cp ∧ i = .int .i64 j ∧ Hid (wr.ownsRow w.heap.size 52 5 (.slice q j cp) j (prtV l)) ∧ Hid (RdrX wr C t d) ∧ Hid (w.grownBy wr (some C)) ∧ Hid (rdL (rdO t) n a = ((rdL (rdO t) gk d).bind fun q => some (l ++ q.1, q.2))))
  case atStart => exact ⟨0, 0, a, none, [], by omega, rfl, rfl, HO, HC, HG, HR⟩
  case round =>
    clear HO HC HG HR
    obtain ⟨j, cp, d, q, l, hj, rfl, rfl, HO, HC, HG, HR⟩ := hrel
    by_cases hlt : j < n
    · obtain ⟨g, rfl⟩ : ∃ g, gk = g + 1 := ⟨gk - 1, by omega⟩
      rcases hx : rdO t d with _ | ⟨⟨x0, x1, x2, x3, x4⟩, d'⟩
      · have HN : Hid (rdL (rdO t) n a = none) := by show _ = _; rw [HR.out]; exact rdL_none hx
        have K : Hid (∀ w, RdrX w C t d → Calls Tryz.prog 93 #[.pointer (some ⟨C, 0, none⟩)] w fun e w' => e = .panicked [unr] ∧ w.grownBy w' (some C)) := port_no C t d ht hx
        clear hx HR
        go_wp2_with fail
        refine (K.out _ HC.out).mono ?_
        rintro e w1 ⟨rfl, hg⟩
        have HG1 : Hid (w.grownBy w1 (some C)) := grown_more HG.out hg
        clear hg HC HG HO K
        go_wp2
        exact ⟨rfl, .inr ⟨rfl, HN.out, HG1.out⟩⟩
      · have HR' : Hid (rdL (rdO t) n a = ((rdL (rdO t) g d').bind fun q => some ((l ++ [(x0, x1, x2, x3, x4)]) ++ q.1, q.2))) := by show _ = _; rw [HR.out]; exact rdL_some hx
        have K : Hid (∀ w, RdrX w C t d → Calls Tryz.prog 93 #[.pointer (some ⟨C, 0, none⟩)] w fun e w' => e = .returned (.agg #[.int .i64 x0, .int .i64 x1, .int .i64 x2, .int .i64 x3, .int .i64 x4]) ∧ RdrX w' C t d' ∧ w.grownBy w' (some C)) := port_ok C t d x0 x1 x2 x3 x4 d' ht hx
        clear hx HR
        go_wp2_with fail
        refine (K.out _ HC.out).mono ?_
        rintro e w1 ⟨rfl, hC1, hg⟩
        have HG1 : Hid (w.grownBy (w1.alloc (.cells #[.int .i64 x0, .int .i64 x1, .int .i64 x2, .int .i64 x3, .int .i64 x4] 52)) (some C)) := grown_al13 (grown_more HG.out hg) _
        have HC1 : Hid (RdrX (w1.alloc (.cells #[.int .i64 x0, .int .i64 x1, .int .i64 x2, .int .i64 x3, .int .i64 x4] 52)) C t d') := hC1.on ((Below.refl _ _).alloc (Nat.le_refl _) _)
        have hown : (w1.alloc (.cells #[.int .i64 x0, .int .i64 x1, .int .i64 x2, .int .i64 x3, .int .i64 x4] 52)).ownsRow w.heap.size 52 5 (.slice q j cp) j (prtV l) := (own_keepC HO.out hCl hg).alloc _
        have hsz := HG1.out.size
        have HOW := own_ge12 hown
        clear hg hC1 HG HC HO K
        go_wp2_with (at_builtin; refine wpList_append_own _ rfl _ _ 26 rfl w.heap.size 52 i0 (.agg #[.int .i64 0, .int .i64 0, .int .i64 0, .int .i64 0, .int .i64 0]) 5 40 Tryz.underlying26 hi hz0 hz1 hz2 rfl (by decide) _ _ _ rfl hown ⟨w1.heap.size, 0, none⟩ 1 1 [.int .i64 x0, .int .i64 x1, .int .i64 x2, .int .i64 x3, .int .i64 x4] rfl rfl ?c1 ?c2 ?c3 ?c4 ?c5 ?_)
        case c1 => exact cell_k (by simp)
        case c2 => intro u hu; simp at hu; rcases hu with rfl | rfl | rfl | rfl | rfl <;> rfl
        case c3 => unfold maxLen; omega
        case c4 => omega
        case c5 => exact hsz
        intro v' w2 hown' hgrow _
        obtain ⟨q', c', hv⟩ := own_shapeW hown'
        subst hv
        have HO2 : Hid (w2.ownsRow w.heap.size 52 5 (.slice q' (j + 1) c') (j + 1) (prtV (l ++ [(x0, x1, x2, x3, x4)]))) := by show World.ownsRow _ _ _ _ _ _ _; rw [prtV_append]; exact hown'
        have HC2 : Hid (RdrX w2 C t d') := row_gr12 hgrow HC1.out (fun e => by have := HOW C e; omega)
        have HG2 : Hid (w.grownBy w2 (some C)) := grown_app13 HG1.out hgrow HOW
        clear hown hown' hgrow HC1 HG1 HOW hsz
        go_wp2
        go_roundg g
        case measure => omega
        case rel => exact ⟨j + 1, c', d', q', l ++ [(x0, x1, x2, x3, x4)], by omega, rfl, by go_num, HO2, HC2, HG2, HR'⟩
    · obtain rfl : gk = 0 := by omega
      obtain rfl : j = n := by omega
      have HN : Hid (rdL (rdO t) j a = some (l, d)) := by show _ = _; rw [HR.out]; exact rdL_zero _ _ _
      clear HR
      go_wp2
      go_ret
      exact .inl ⟨l, d, q, cp, rfl, HN.out, HO.out, HC.out, HG.out⟩

set_option maxRecDepth 100000 in
set_option maxHeartbeats 2000000 in
theorem list_rule (C : Nat) (t : ByteArray) (a n : Nat) (ht : t.size ≤ 1048576) (hn : n ≤ 100) (w : World) (hC : RdrX w C t a) :
    Calls Tryz.prog 94 #[.int .i64 (n : Int), .func (.func 95) #[.pointer (some ⟨C, 0, none⟩)] #[]] w fun e w' =>
      (∃ (l : List Rule) (c : Nat) (q : Option Addr) (cp : Nat), e = .returned (.slice q n cp) ∧ rdL (rdU t) n a = some (l, c) ∧ w'.ownsRow w.heap.size 54 3 (.slice q n cp) n (rulV l) ∧ RdrX w' C t c ∧ w.grownBy w' (some C)) ∨
      (e = .panicked [unr] ∧ rdL (rdU t) n a = none ∧ w.grownBy w' (some C)) := by
  obtain ⟨i0, hi, hz0, hz1, hz2⟩ := info_parts infoU
  have hCl : C < w.heap.size := row_lt hC
  have HC : Hid (RdrX w C t a) := hC
  have HO : Hid (w.ownsRow w.heap.size 54 3 (.slice none 0 0) 0 (rulV [])) := World.ownsRow_nil _ _ _ _
  have HG : Hid (w.grownBy w (some C)) := World.grownBy.refl _ _
  have HR : Hid (rdL (rdU t) n a = ((rdL (rdU t) n a).bind fun q => some ([] ++ q.1, q.2))) := rdL_start _ _ _
  clear hC
  go_enter Tryz.func94, Tryz.ntmps94
  go_wp2
  go_loopg [5, 7] n (fun gk v i wr => ∃ (j cp d : Nat) (q : Option Addr) (l : List Rule), j + gk = n ∧ v = .slice q j cp ∧ i = .int .i64 j ∧ Hid (wr.ownsRow w.heap.size 54 3 (.slice q j cp) j (rulV l)) ∧ Hid (RdrX wr C t d) ∧ Hid (w.grownBy wr (some C)) ∧ Hid (rdL (rdU t) n a = ((rdL (rdU t) gk d).bind fun q => some (l ++ q.1, q.2))))
  case atStart => exact ⟨0, 0, a, none, [], by omega, rfl, rfl, HO, HC, HG, HR⟩
  case round =>
    clear HO HC HG HR
    obtain ⟨j, cp, d, q, l, hj, rfl, rfl, HO, HC, HG, HR⟩ := hrel
    by_cases hlt : j < n
    · obtain ⟨g, rfl⟩ : ∃ g, gk = g + 1 := ⟨gk - 1, by omega⟩
      rcases hx : rdU t d with _ | ⟨⟨x0, x1, x2⟩, d'⟩
      · have HN : Hid (rdL (rdU t) n a = none) := by show _ = _; rw [HR.out]; exact rdL_none hx
        have K : Hid (∀ w, RdrX w C t d → Calls Tryz.prog 95 #[.pointer (some ⟨C, 0, none⟩)] w fun e w' => e = .panicked [unr] ∧ w.grownBy w' (some C)) := rule_no C t d ht hx
        clear hx HR
        go_wp2_with fail
        refine (K.out _ HC.out).mono ?_
        rintro e w1 ⟨rfl, hg⟩
        have HG1 : Hid (w.grownBy w1 (some C)) := grown_more HG.out hg
        clear hg HC HG HO K
        go_wp2
        exact ⟨rfl, .inr ⟨rfl, HN.out, HG1.out⟩⟩
      · have HR' : Hid (rdL (rdU t) n a = ((rdL (rdU t) g d').bind fun q => some ((l ++ [(x0, x1, x2)]) ++ q.1, q.2))) := by show _ = _; rw [HR.out]; exact rdL_some hx
        have K : Hid (∀ w, RdrX w C t d → Calls Tryz.prog 95 #[.pointer (some ⟨C, 0, none⟩)] w fun e w' => e = .returned (.agg #[.int .i64 x0, .int .i64 x1, .int .i64 x2]) ∧ RdrX w' C t d' ∧ w.grownBy w' (some C)) := rule_ok C t d x0 x1 x2 d' ht hx
        clear hx HR
        go_wp2_with fail
        refine (K.out _ HC.out).mono ?_
        rintro e w1 ⟨rfl, hC1, hg⟩
        have HG1 : Hid (w.grownBy (w1.alloc (.cells #[.int .i64 x0, .int .i64 x1, .int .i64 x2] 54)) (some C)) := grown_al13 (grown_more HG.out hg) _
        have HC1 : Hid (RdrX (w1.alloc (.cells #[.int .i64 x0, .int .i64 x1, .int .i64 x2] 54)) C t d') := hC1.on ((Below.refl _ _).alloc (Nat.le_refl _) _)
        have hown : (w1.alloc (.cells #[.int .i64 x0, .int .i64 x1, .int .i64 x2] 54)).ownsRow w.heap.size 54 3 (.slice q j cp) j (rulV l) := (own_keepC HO.out hCl hg).alloc _
        have hsz := HG1.out.size
        have HOW := own_ge12 hown
        clear hg hC1 HG HC HO K
        go_wp2_with (at_builtin; refine wpList_append_own _ rfl _ _ 27 rfl w.heap.size 54 i0 (.agg #[.int .i64 0, .int .i64 0, .int .i64 0]) 3 24 Tryz.underlying27 hi hz0 hz1 hz2 rfl (by decide) _ _ _ rfl hown ⟨w1.heap.size, 0, none⟩ 1 1 [.int .i64 x0, .int .i64 x1, .int .i64 x2] rfl rfl ?c1 ?c2 ?c3 ?c4 ?c5 ?_)
        case c1 => exact cell_k (by simp)
        case c2 => intro u hu; simp at hu; rcases hu with rfl | rfl | rfl <;> rfl
        case c3 => unfold maxLen; omega
        case c4 => omega
        case c5 => exact hsz
        intro v' w2 hown' hgrow _
        obtain ⟨q', c', hv⟩ := own_shapeW hown'
        subst hv
        have HO2 : Hid (w2.ownsRow w.heap.size 54 3 (.slice q' (j + 1) c') (j + 1) (rulV (l ++ [(x0, x1, x2)]))) := by show World.ownsRow _ _ _ _ _ _ _; rw [rulV_append]; exact hown'
        have HC2 : Hid (RdrX w2 C t d') := row_gr12 hgrow HC1.out (fun e => by have := HOW C e; omega)
        have HG2 : Hid (w.grownBy w2 (some C)) := grown_app13 HG1.out hgrow HOW
        clear hown hown' hgrow HC1 HG1 HOW hsz
        go_wp2
        go_roundg g
        case measure => omega
        case rel => exact ⟨j + 1, c', d', q', l ++ [(x0, x1, x2)], by omega, rfl, by go_num, HO2, HC2, HG2, HR'⟩
    · obtain rfl : gk = 0 := by omega
      obtain rfl : j = n := by omega
      have HN : Hid (rdL (rdU t) j a = some (l, d)) := by show _ = _; rw [HR.out]; exact rdL_zero _ _ _
      clear HR
      go_wp2
      go_ret
      exact .inl ⟨l, d, q, cp, rfl, HN.out, HO.out, HC.out, HG.out⟩

set_option maxRecDepth 100000 in
set_option maxHeartbeats 2000000 in
theorem list_code (C : Nat) (t : ByteArray) (a n : Nat) (ht : t.size ≤ 1048576) (hn : n ≤ 100) (w : World) (hC : RdrX w C t a) :
    Calls Tryz.prog 96 #[.int .i64 (n : Int), .func (.func 97) #[.pointer (some ⟨C, 0, none⟩)] #[]] w fun e w' =>
      (∃ (l : List ByteArray) (c : Nat) (q : Option Addr) (cp : Nat), e = .returned (.slice q n cp) ∧ rdL (rdS t) n a = some (l, c) ∧ w'.ownsRow w.heap.size 9 1 (.slice q n cp) n (S.strV l) ∧ RdrX w' C t c ∧ w.grownBy w' (some C)) ∨
      (e = .panicked [unr] ∧ rdL (rdS t) n a = none ∧ w.grownBy w' (some C)) := by
  obtain ⟨i0, hi, hz0, hz1, hz2⟩ := info_parts S.info9
  have hCl : C < w.heap.size := row_lt hC
  have HC : Hid (RdrX w C t a) := hC
  have HO : Hid (w.ownsRow w.heap.size 9 1 (.slice none 0 0) 0 (S.strV [])) := World.ownsRow_nil _ _ _ _
  have HG : Hid (w.grownBy w (some C)) := World.grownBy.refl _ _
  have HR : Hid (rdL (rdS t) n a = ((rdL (rdS t) n a).bind fun q => some ([] ++ q.1, q.2))) := rdL_start _ _ _
  clear hC
  go_enter Tryz.func96, Tryz.ntmps96
  go_wp2
  go_loopg [5, 7] n (fun gk v i wr => ∃ (j cp d : Nat) (q : Option Addr) (l : List ByteArray), j + gk = n ∧ v = .slice q j cp ∧ i = .int .i64 j ∧ Hid (wr.ownsRow w.heap.size 9 1 (.slice q j cp) j (S.strV l)) ∧ Hid (RdrX wr C t d) ∧ Hid (w.grownBy wr (some C)) ∧ Hid (rdL (rdS t) n a = ((rdL (rdS t) gk d).bind fun q => some (l ++ q.1, q.2))))
  case atStart => exact ⟨0, 0, a, none, [], by omega, rfl, rfl, HO, HC, HG, HR⟩
  case round =>
    clear HO HC HG HR
    obtain ⟨j, cp, d, q, l, hj, rfl, rfl, HO, HC, HG, HR⟩ := hrel
    by_cases hlt : j < n
    · obtain ⟨g, rfl⟩ : ∃ g, gk = g + 1 := ⟨gk - 1, by omega⟩
      rcases hx : rdS t d with _ | ⟨x0, d'⟩
      · have HN : Hid (rdL (rdS t) n a = none) := by show _ = _; rw [HR.out]; exact rdL_none hx
        have K : Hid (∀ w, RdrX w C t d → Calls Tryz.prog 97 #[.pointer (some ⟨C, 0, none⟩)] w fun e w' => e = .panicked [unr] ∧ w.grownBy w' (some C)) := code_no C t d ht hx
        clear hx HR
        go_wp2_with fail
        refine (K.out _ HC.out).mono ?_
        rintro e w1 ⟨rfl, hg⟩
        have HG1 : Hid (w.grownBy w1 (some C)) := grown_more HG.out hg
        clear hg HC HG HO K
        go_wp2
        exact ⟨rfl, .inr ⟨rfl, HN.out, HG1.out⟩⟩
      · have HR' : Hid (rdL (rdS t) n a = ((rdL (rdS t) g d').bind fun q => some ((l ++ [x0]) ++ q.1, q.2))) := by show _ = _; rw [HR.out]; exact rdL_some hx
        have K : Hid (∀ w, RdrX w C t d → Calls Tryz.prog 97 #[.pointer (some ⟨C, 0, none⟩)] w fun e w' => e = .returned (.string x0) ∧ RdrX w' C t d' ∧ w.grownBy w' (some C)) := code_ok C t d x0 d' ht hx
        clear hx HR
        go_wp2_with fail
        refine (K.out _ HC.out).mono ?_
        rintro e w1 ⟨rfl, hC1, hg⟩
        have HG1 : Hid (w.grownBy (w1.alloc (.cells #[.string x0] 9)) (some C)) := grown_al13 (grown_more HG.out hg) _
        have HC1 : Hid (RdrX (w1.alloc (.cells #[.string x0] 9)) C t d') := hC1.on ((Below.refl _ _).alloc (Nat.le_refl _) _)
        have hown : (w1.alloc (.cells #[.string x0] 9)).ownsRow w.heap.size 9 1 (.slice q j cp) j (S.strV l) := (own_keepC HO.out hCl hg).alloc _
        have hsz := HG1.out.size
        have HOW := own_ge12 hown
        clear hg hC1 HG HC HO K
        go_wp2_with (at_builtin; refine wpList_append_own _ rfl _ _ 28 rfl w.heap.size 9 i0 (.string ⟨#[]⟩) 1 16 Tryz.underlying28 hi hz0 hz1 hz2 rfl (by decide) _ _ _ rfl hown ⟨w1.heap.size, 0, none⟩ 1 1 [.string x0] rfl rfl ?c1 ?c2 ?c3 ?c4 ?c5 ?_)
        case c1 => exact cell_k (by simp)
        case c2 => intro u hu; simp at hu; subst hu; rfl
        case c3 => unfold maxLen; omega
        case c4 => omega
        case c5 => exact hsz
        intro v' w2 hown' hgrow _
        obtain ⟨q', c', hv⟩ := own_shapeW hown'
        subst hv
        have HO2 : Hid (w2.ownsRow w.heap.size 9 1 (.slice q' (j + 1) c') (j + 1) (S.strV (l ++ [x0]))) := by show World.ownsRow _ _ _ _ _ _ _; unfold S.strV at hown' ⊢; rw [List.map_append]; exact hown'
        have HC2 : Hid (RdrX w2 C t d') := row_gr12 hgrow HC1.out (fun e => by have := HOW C e; omega)
        have HG2 : Hid (w.grownBy w2 (some C)) := grown_app13 HG1.out hgrow HOW
        clear hown hown' hgrow HC1 HG1 HOW hsz
        go_wp2
        go_roundg g
        case measure => omega
        case rel => exact ⟨j + 1, c', d', q', l ++ [x0], by omega, rfl, by go_num, HO2, HC2, HG2, HR'⟩
    · obtain rfl : gk = 0 := by omega
      obtain rfl : j = n := by omega
      have HN : Hid (rdL (rdS t) j a = some (l, d)) := by show _ = _; rw [HR.out]; exact rdL_zero _ _ _
      clear HR
      go_wp2
      go_ret
      exact .inl ⟨l, d, q, cp, rfl, HN.out, HO.out, HC.out, HG.out⟩
end Go.Proofs.YtadbekhekggpkaaGreatDoor

namespace Go.Proofs.YtadbekhekggpkaaGreatDoor
open Go.RowKit Go.PlainAid
set_option linter.unusedVariables false

/-- the memory of the program's reading -/
structure SI (w W : World) (C : Nat) (t : ByteArray) (a : Nat) (s : SH) (X : SX) : Prop where
  g : w.grownBy W (some C)
  c : RdrX W C t a
  z : W.heap[w.heap.size]? = some (.cells #[.slice none 0 0, .slice none 0 0, .slice none 0 0, .slice none 0 0, .slice none 0 0] 30)
  b : W.heap[w.heap.size + 1]? = some (.cells #[.slice s.q0 s.n0 s.c0, .slice s.q1 s.n1 s.c1, .slice s.q2 s.n2 s.c2, .slice s.q3 s.n3 s.c3, .slice s.q4 s.n4 s.c4] 30)
  o : OwnX W w.heap.size s X
  hC : C < w.heap.size
theorem OwnX.keepC {W W' : World} {B C : Nat} {s : SH} {X : SX} (h : OwnX W B s X) (hC : C < B) (hg : W.grownBy W' (some C)) : OwnX W' B s X :=
  ⟨own_keepC h.o0 hC hg, own_keepC h.o1 hC hg, own_keepC h.o2 hC hg, own_keepC h.o3 hC hg, own_keepC h.o4 hC hg⟩
theorem SI.go {w W W' : World} {C : Nat} {t : ByteArray} {a a' : Nat} {s : SH} {X : SX} (h : SI w W C t a s X) (hc : RdrX W' C t a') (hg : W.grownBy W' (some C)) : SI w W' C t a' s X :=
  ⟨grown_more h.g hg, hc, row_gr13 hg h.z (by have := h.hC; omega), row_gr13 hg h.b (by have := h.hC; omega), h.o.keepC h.hC hg, h.hC⟩
theorem SI.put {w W : World} {C : Nat} {t : ByteArray} {a : Nat} {s s' : SH} {X X' : SX} {i : Nat} {x : Value} (h : SI w W C t a s X) (hb : (W.setCell ⟨w.heap.size + 1, i, none⟩ x).heap[w.heap.size + 1]? = some (.cells #[.slice s'.q0 s'.n0 s'.c0, .slice s'.q1 s'.n1 s'.c1, .slice s'.q2 s'.n2 s'.c2, .slice s'.q3 s'.n3 s'.c3, .slice s'.q4 s'.n4 s'.c4] 30)) (ho : OwnX W w.heap.size s' X') : SI w (W.setCell ⟨w.heap.size + 1, i, none⟩ x) C t a s' X' :=
  ⟨grown_put13 h.g (by omega) _, set_far h.c (by have := h.hC; omega), set_far h.z (by omega), hb, ho.set h.b (by decide), h.hC⟩
theorem rdC_some {t : ByteArray} {a : Nat} {most : Int} {n c : Nat} (h : rdC t a most = some (n, c)) : V.rv t (a : Int) = some ((n : Int), c) ∧ (n : Int) ≤ most := by
  obtain ⟨⟨m, d⟩, e0, h⟩ := bind_some h
  have hb := V.rv_some (show V.rv t (a : Int) = some (m, d) from e0)
  simp only at h
  split at h
  · simp at h
  · rename_i hh
    cases h
    rw [Int.toNat_of_nonneg hb.1]
    exact ⟨e0, by omega⟩
theorem rdC_none {t : ByteArray} {a : Nat} {most : Int} (h : rdC t a most = none) : V.rv t (a : Int) = none ∨ ∃ n c, V.rv t (a : Int) = some (n, c) ∧ most < n := by
  rcases e0 : V.rv t (a : Int) with _ | ⟨m, d⟩
  · exact .inl rfl
  · simp only [rdC, rdN, e0, Option.bind_some] at h
    split at h
    · rename_i hh
      exact .inr ⟨m, d, rfl, hh⟩
    · simp at h
theorem own_cap {W : World} {B T z n cp : Nat} {q : Option Addr} {xs : List Value} (h : W.ownsRow B T z (.slice q n cp) n xs) : n ≤ cp := by
  rcases h.2 with ⟨e, e'⟩ | ⟨g, cap, cur, e, _, _, hnc, _⟩
  · cases e; omega
  · cases e; exact hnc
theorem bind_none2 {α β : Type} {o : Option α} {f : α → Option β} (h : o = none) : o.bind f = none := by rw [h]; rfl
theorem bind_val {α β : Type} {o : Option α} {f : α → Option β} {a : α} (h : o = some a) : o.bind f = f a := by rw [h]; rfl

set_option maxRecDepth 100000 in
set_option maxHeartbeats 8000000 in
theorem setupI (C : Nat) (t : ByteArray) (ht : t.size ≤ 1048576) (w : World) (hC : RdrX w C t 0) :
    Calls Tryz.prog 58 #[.pointer (some ⟨C, 0, none⟩)] w fun e w' =>
      (∃ (s : SH) (X : SX), e = .returned (SetV s) ∧ parse t = some X ∧ s.n0 ≤ s.c0 ∧ OwnX w' w.heap.size s X ∧ w.grownBy w' (some C)) ∨ (e = .panicked [unr] ∧ parse t = none ∧ w.grownBy w' (some C)) := by
  have hmf : ∀ (fn : Fn) (first cap : Array Value) (w : World), (Instr.makeFunc fn first cap).run Tryz.prog w = .ok (.func fn first cap) w := fun _ _ _ _ => rfl
  have hCl : C < w.heap.size := row_lt hC
  have HS0 : Hid (SI w ((w.alloc (.cells #[.slice none 0 0, .slice none 0 0, .slice none 0 0, .slice none 0 0, .slice none 0 0] 30)).alloc (.cells #[.slice none 0 0, .slice none 0 0, .slice none 0 0, .slice none 0 0, .slice none 0 0] 30)) C t 0 ⟨none, 0, 0, none, 0, 0, none, 0, 0, none, 0, 0, none, 0, 0⟩ ⟨[], [], [], [], []⟩) := by
    have h1 := heap_new (w.alloc (.cells #[.slice none 0 0, .slice none 0 0, .slice none 0 0, .slice none 0 0, .slice none 0 0] 30)) (.cells #[.slice none 0 0, .slice none 0 0, .slice none 0 0, .slice none 0 0, .slice none 0 0] 30)
    have e1 : (w.alloc (.cells #[.slice none 0 0, .slice none 0 0, .slice none 0 0, .slice none 0 0, .slice none 0 0] 30)).heap.size = w.heap.size + 1 := by simp
    rw [e1] at h1
    exact ⟨grown_al13 (World.grownBy_alloc _ _ _) _, (hC.on ((Below.refl _ _).alloc (Nat.le_refl _) _)).on ((Below.refl _ _).alloc (Nat.le_refl _) _), row_on (heap_new w _) ((Below.refl _ _).alloc (Nat.le_refl _) _), h1, ⟨World.ownsRow_nil _ _ _ _, World.ownsRow_nil _ _ _ _, World.ownsRow_nil _ _ _ _, World.ownsRow_nil _ _ _ _, World.ownsRow_nil _ _ _ _⟩, hCl⟩
  have HP : Hid (parse t = (rdC t 0 4).bind fun c => (rdL (rdP t) c.1 c.2).bind fun r => k2 t r.1 r.2) := rfl
  clear hC
  unfold SetV
  go_enter Tryz.func58, Tryz.ntmps58
  rcases hc : rdC t 0 4 with _ | ⟨n0, a0⟩
  · have HN : Hid (parse t = none) := by show _ = _; rw [HP.out]; exact bind_none2 hc
    have K : Hid (∀ w, RdrX w C t 0 → Calls Tryz.prog 88 #[.pointer (some ⟨C, 0, none⟩), .int .i64 4] w fun e w' => e = .panicked [unr] ∧ w.grownBy w' (some C)) := count_no C t 0 4 ht (rdC_none hc)
    clear hc HP
    go_wp2_with fail
    refine (K.out _ HS0.out.c).mono ?_
    rintro e wn ⟨rfl, hg⟩
    have HG : Hid (w.grownBy wn (some C)) := grown_more HS0.out.g hg
    clear hg HS0 K
    try clear kv
    go_wp2
    exact ⟨rfl, .inr ⟨rfl, HN.out, HG.out⟩⟩
  have HPa : Hid (parse t = (rdL (rdP t) n0 a0).bind fun r => k2 t r.1 r.2) := by show _ = _; rw [HP.out]; exact bind_val hc
  obtain ⟨hrv, hm0⟩ := rdC_some hc
  have K : Hid (∀ w, RdrX w C t 0 → Calls Tryz.prog 88 #[.pointer (some ⟨C, 0, none⟩), .int .i64 4] w fun e w' => e = .returned (.int .i64 (n0 : Int)) ∧ RdrX w' C t a0 ∧ w.grownBy w' (some C)) := count_ok C t 0 n0 4 a0 ht hrv hm0
  clear hc hrv HP
  go_wp2_with fail
  refine (K.out _ HS0.out.c).mono ?_
  rintro e u0 ⟨rfl, hc, hg⟩
  have HT : Hid (SI w u0 C t a0 ⟨none, 0, 0, none, 0, 0, none, 0, 0, none, 0, 0, none, 0, 0⟩ ⟨[], [], [], [], []⟩) := HS0.out.go hc hg
  clear hc hg HS0 K
  try clear kv
  go_wp2_with fail
  refine (list_region C t a0 n0 ht (by omega) _ HT.out.c).mono ?_
  rintro e v0 (⟨l0, d0, q0, p0, rfl, hL, ho, hc, hg⟩ | ⟨rfl, hL, hg⟩)
  rotate_left
  · have HN : Hid (parse t = none) := by show _ = _; rw [HPa.out]; exact bind_none2 hL
    have HG : Hid (w.grownBy v0 (some C)) := grown_more HT.out.g hg
    clear hL hg HT HPa
    try clear kv
    try clear kq
    go_wp2
    exact ⟨rfl, .inr ⟨rfl, HN.out, HG.out⟩⟩
  have HV : Hid (SI w v0 C t d0 ⟨none, 0, 0, none, 0, 0, none, 0, 0, none, 0, 0, none, 0, 0⟩ ⟨[], [], [], [], []⟩) := HT.out.go hc hg
  try clear kv
  try clear kq
  have kv := boxO_cells HV.out.b
  dsimp only at kv
  have HS1 : Hid (SI w (v0.setCell ⟨w.heap.size + 1, 0, none⟩ (.slice q0 n0 p0)) C t d0 ⟨q0, n0, p0, none, 0, 0, none, 0, 0, none, 0, 0, none, 0, 0⟩ ⟨l0, [], [], [], []⟩) := HV.out.put (set_row5 HV.out.b 0 _) ⟨own_mono ho (by have := HT.out.g.size; omega), HV.out.o.o1, HV.out.o.o2, HV.out.o.o3, HV.out.o.o4⟩
  have HCap : Hid (n0 ≤ p0) := own_cap ho
  have HP : Hid (parse t = k2 t l0 d0) := by show _ = _; rw [HPa.out]; exact bind_val hL
  clear hL ho hc hg HPa HT HV
  unfold k2 at HP
  rcases hc : rdC t d0 12 with _ | ⟨n1, a1⟩
  · have HN : Hid (parse t = none) := by show _ = _; rw [HP.out]; exact bind_none2 hc
    have K : Hid (∀ w, RdrX w C t d0 → Calls Tryz.prog 88 #[.pointer (some ⟨C, 0, none⟩), .int .i64 12] w fun e w' => e = .panicked [unr] ∧ w.grownBy w' (some C)) := count_no C t d0 12 ht (rdC_none hc)
    clear hc HP
    go_wp2_with fail
    refine (K.out _ HS1.out.c).mono ?_
    rintro e wn ⟨rfl, hg⟩
    have HG : Hid (w.grownBy wn (some C)) := grown_more HS1.out.g hg
    clear hg HS1 K
    try clear kv
    go_wp2
    exact ⟨rfl, .inr ⟨rfl, HN.out, HG.out⟩⟩
  have HPa : Hid (parse t = (rdL (rdP t) n1 a1).bind fun r => k3 t l0 r.1 r.2) := by show _ = _; rw [HP.out]; exact bind_val hc
  obtain ⟨hrv, hm1⟩ := rdC_some hc
  have K : Hid (∀ w, RdrX w C t d0 → Calls Tryz.prog 88 #[.pointer (some ⟨C, 0, none⟩), .int .i64 12] w fun e w' => e = .returned (.int .i64 (n1 : Int)) ∧ RdrX w' C t a1 ∧ w.grownBy w' (some C)) := count_ok C t d0 n1 12 a1 ht hrv hm1
  clear hc hrv HP
  go_wp2_with fail
  refine (K.out _ HS1.out.c).mono ?_
  rintro e u1 ⟨rfl, hc, hg⟩
  have HT : Hid (SI w u1 C t a1 ⟨q0, n0, p0, none, 0, 0, none, 0, 0, none, 0, 0, none, 0, 0⟩ ⟨l0, [], [], [], []⟩) := HS1.out.go hc hg
  clear hc hg HS1 K
  try clear kv
  go_wp2_with fail
  refine (list_window C t a1 n1 ht (by omega) _ HT.out.c).mono ?_
  rintro e v1 (⟨l1, d1, q1, p1, rfl, hL, ho, hc, hg⟩ | ⟨rfl, hL, hg⟩)
  rotate_left
  · have HN : Hid (parse t = none) := by show _ = _; rw [HPa.out]; exact bind_none2 hL
    have HG : Hid (w.grownBy v1 (some C)) := grown_more HT.out.g hg
    clear hL hg HT HPa
    try clear kv
    try clear kq
    go_wp2
    exact ⟨rfl, .inr ⟨rfl, HN.out, HG.out⟩⟩
  have HV : Hid (SI w v1 C t d1 ⟨q0, n0, p0, none, 0, 0, none, 0, 0, none, 0, 0, none, 0, 0⟩ ⟨l0, [], [], [], []⟩) := HT.out.go hc hg
  try clear kv
  try clear kq
  have kv := boxO_cells HV.out.b
  dsimp only at kv
  have HS2 : Hid (SI w (v1.setCell ⟨w.heap.size + 1, 1, none⟩ (.slice q1 n1 p1)) C t d1 ⟨q0, n0, p0, q1, n1, p1, none, 0, 0, none, 0, 0, none, 0, 0⟩ ⟨l0, l1, [], [], []⟩) := HV.out.put (set_row5 HV.out.b 1 _) ⟨HV.out.o.o0, own_mono ho (by have := HT.out.g.size; omega), HV.out.o.o2, HV.out.o.o3, HV.out.o.o4⟩
  have HP : Hid (parse t = k3 t l0 l1 d1) := by show _ = _; rw [HPa.out]; exact bind_val hL
  clear hL ho hc hg HPa HT HV
  unfold k3 at HP
  rcases hc : rdC t d1 6 with _ | ⟨n2, a2⟩
  · have HN : Hid (parse t = none) := by show _ = _; rw [HP.out]; exact bind_none2 hc
    have K : Hid (∀ w, RdrX w C t d1 → Calls Tryz.prog 88 #[.pointer (some ⟨C, 0, none⟩), .int .i64 6] w fun e w' => e = .panicked [unr] ∧ w.grownBy w' (some C)) := count_no C t d1 6 ht (rdC_none hc)
    clear hc HP
    go_wp2_with fail
    refine (K.out _ HS2.out.c).mono ?_
    rintro e wn ⟨rfl, hg⟩
    have HG : Hid (w.grownBy wn (some C)) := grown_more HS2.out.g hg
    clear hg HS2 K
    try clear kv
    go_wp2
    exact ⟨rfl, .inr ⟨rfl, HN.out, HG.out⟩⟩
  have HPa : Hid (parse t = (rdL (rdO t) n2 a2).bind fun r => k4 t l0 l1 r.1 r.2) := by show _ = _; rw [HP.out]; exact bind_val hc
  obtain ⟨hrv, hm2⟩ := rdC_some hc
  have K : Hid (∀ w, RdrX w C t d1 → Calls Tryz.prog 88 #[.pointer (some ⟨C, 0, none⟩), .int .i64 6] w fun e w' => e = .returned (.int .i64 (n2 : Int)) ∧ RdrX w' C t a2 ∧ w.grownBy w' (some C)) := count_ok C t d1 n2 6 a2 ht hrv hm2
  clear hc hrv HP
  go_wp2_with fail
  refine (K.out _ HS2.out.c).mono ?_
  rintro e u2 ⟨rfl, hc, hg⟩
  have HT : Hid (SI w u2 C t a2 ⟨q0, n0, p0, q1, n1, p1, none, 0, 0, none, 0, 0, none, 0, 0⟩ ⟨l0, l1, [], [], []⟩) := HS2.out.go hc hg
  clear hc hg HS2 K
  try clear kv
  go_wp2_with fail
  refine (list_port C t a2 n2 ht (by omega) _ HT.out.c).mono ?_
  rintro e v2 (⟨l2, d2, q2, p2, rfl, hL, ho, hc, hg⟩ | ⟨rfl, hL, hg⟩)
  rotate_left
  · have HN : Hid (parse t = none) := by show _ = _; rw [HPa.out]; exact bind_none2 hL
    have HG : Hid (w.grownBy v2 (some C)) := grown_more HT.out.g hg
    clear hL hg HT HPa
    try clear kv
    try clear kq
    go_wp2
    exact ⟨rfl, .inr ⟨rfl, HN.out, HG.out⟩⟩
  have HV : Hid (SI w v2 C t d2 ⟨q0, n0, p0, q1, n1, p1, none, 0, 0, none, 0, 0, none, 0, 0⟩ ⟨l0, l1, [], [], []⟩) := HT.out.go hc hg
  try clear kv
  try clear kq
  have kv := boxO_cells HV.out.b
  dsimp only at kv
  have HS3 : Hid (SI w (v2.setCell ⟨w.heap.size + 1, 2, none⟩ (.slice q2 n2 p2)) C t d2 ⟨q0, n0, p0, q1, n1, p1, q2, n2, p2, none, 0, 0, none, 0, 0⟩ ⟨l0, l1, l2, [], []⟩) := HV.out.put (set_row5 HV.out.b 2 _) ⟨HV.out.o.o0, HV.out.o.o1, own_mono ho (by have := HT.out.g.size; omega), HV.out.o.o3, HV.out.o.o4⟩
  have HP : Hid (parse t = k4 t l0 l1 l2 d2) := by show _ = _; rw [HPa.out]; exact bind_val hL
  clear hL ho hc hg HPa HT HV
  unfold k4 at HP
  rcases hc : rdC t d2 8 with _ | ⟨n3, a3⟩
  · have HN : Hid (parse t = none) := by show _ = _; rw [HP.out]; exact bind_none2 hc
    have K : Hid (∀ w, RdrX w C t d2 → Calls Tryz.prog 88 #[.pointer (some ⟨C, 0, none⟩), .int .i64 8] w fun e w' => e = .panicked [unr] ∧ w.grownBy w' (some C)) := count_no C t d2 8 ht (rdC_none hc)
    clear hc HP
    go_wp2_with fail
    refine (K.out _ HS3.out.c).mono ?_
    rintro e wn ⟨rfl, hg⟩
    have HG : Hid (w.grownBy wn (some C)) := grown_more HS3.out.g hg
    clear hg HS3 K
    try clear kv
    go_wp2
    exact ⟨rfl, .inr ⟨rfl, HN.out, HG.out⟩⟩
  have HPa : Hid (parse t = (rdL (rdU t) n3 a3).bind fun r => k5 t l0 l1 l2 r.1 r.2) := by show _ = _; rw [HP.out]; exact bind_val hc
  obtain ⟨hrv, hm3⟩ := rdC_some hc
  have K : Hid (∀ w, RdrX w C t d2 → Calls Tryz.prog 88 #[.pointer (some ⟨C, 0, none⟩), .int .i64 8] w fun e w' => e = .returned (.int .i64 (n3 : Int)) ∧ RdrX w' C t a3 ∧ w.grownBy w' (some C)) := count_ok C t d2 n3 8 a3 ht hrv hm3
  clear hc hrv HP
  go_wp2_with fail
  refine (K.out _ HS3.out.c).mono ?_
  rintro e u3 ⟨rfl, hc, hg⟩
  have HT : Hid (SI w u3 C t a3 ⟨q0, n0, p0, q1, n1, p1, q2, n2, p2, none, 0, 0, none, 0, 0⟩ ⟨l0, l1, l2, [], []⟩) := HS3.out.go hc hg
  clear hc hg HS3 K
  try clear kv
  go_wp2_with fail
  refine (list_rule C t a3 n3 ht (by omega) _ HT.out.c).mono ?_
  rintro e v3 (⟨l3, d3, q3, p3, rfl, hL, ho, hc, hg⟩ | ⟨rfl, hL, hg⟩)
  rotate_left
  · have HN : Hid (parse t = none) := by show _ = _; rw [HPa.out]; exact bind_none2 hL
    have HG : Hid (w.grownBy v3 (some C)) := grown_more HT.out.g hg
    clear hL hg HT HPa
    try clear kv
    try clear kq
    go_wp2
    exact ⟨rfl, .inr ⟨rfl, HN.out, HG.out⟩⟩
  have HV : Hid (SI w v3 C t d3 ⟨q0, n0, p0, q1, n1, p1, q2, n2, p2, none, 0, 0, none, 0, 0⟩ ⟨l0, l1, l2, [], []⟩) := HT.out.go hc hg
  try clear kv
  try clear kq
  have kv := boxO_cells HV.out.b
  dsimp only at kv
  have HS4 : Hid (SI w (v3.setCell ⟨w.heap.size + 1, 3, none⟩ (.slice q3 n3 p3)) C t d3 ⟨q0, n0, p0, q1, n1, p1, q2, n2, p2, q3, n3, p3, none, 0, 0⟩ ⟨l0, l1, l2, l3, []⟩) := HV.out.put (set_row5 HV.out.b 3 _) ⟨HV.out.o.o0, HV.out.o.o1, HV.out.o.o2, own_mono ho (by have := HT.out.g.size; omega), HV.out.o.o4⟩
  have HP : Hid (parse t = k5 t l0 l1 l2 l3 d3) := by show _ = _; rw [HPa.out]; exact bind_val hL
  clear hL ho hc hg HPa HT HV
  unfold k5 at HP
  have HPa : Hid (parse t = (rdL (rdS t) l0.length d3).bind fun r => if r.2 = t.size then some ⟨l0, l1, l2, l3, r.1⟩ else none) := HP.out
  have hl0 : l0.length = n0 := HS4.out.o.rd.l0
  rw [hl0] at HPa
  clear hl0 HP
  have kq := boxO_cells HS4.out.b
  dsimp only at kq
  have HT := HS4
  clear HS4
  go_wp2_with fail
  refine (list_code C t d3 n0 ht (by omega) _ HT.out.c).mono ?_
  rintro e v4 (⟨l4, d4, q4, p4, rfl, hL, ho, hc, hg⟩ | ⟨rfl, hL, hg⟩)
  rotate_left
  · have HN : Hid (parse t = none) := by show _ = _; rw [HPa.out]; exact bind_none2 hL
    have HG : Hid (w.grownBy v4 (some C)) := grown_more HT.out.g hg
    clear hL hg HT HPa
    try clear kv
    try clear kq
    go_wp2
    exact ⟨rfl, .inr ⟨rfl, HN.out, HG.out⟩⟩
  have HV : Hid (SI w v4 C t d4 ⟨q0, n0, p0, q1, n1, p1, q2, n2, p2, q3, n3, p3, none, 0, 0⟩ ⟨l0, l1, l2, l3, []⟩) := HT.out.go hc hg
  try clear kv
  try clear kq
  have kv := boxO_cells HV.out.b
  dsimp only at kv
  have HS5 : Hid (SI w (v4.setCell ⟨w.heap.size + 1, 4, none⟩ (.slice q4 n0 p4)) C t d4 ⟨q0, n0, p0, q1, n1, p1, q2, n2, p2, q3, n3, p3, q4, n0, p4⟩ ⟨l0, l1, l2, l3, l4⟩) := HV.out.put (set_row5 HV.out.b 4 _) ⟨HV.out.o.o0, HV.out.o.o1, HV.out.o.o2, HV.out.o.o3, own_mono ho (by have := HT.out.g.size; omega)⟩
  have HP : Hid (parse t = if d4 = t.size then some ⟨l0, l1, l2, l3, l4⟩ else none) := by show _ = _; rw [HPa.out]; exact bind_val hL
  clear hL ho hc hg HPa HT HV
  by_cases hend : d4 = t.size
  · have HN : Hid (parse t = some ⟨l0, l1, l2, l3, l4⟩) := by show _ = _; rw [HP.out]; exact if_pos hend
    have K : Hid (∀ w, RdrX w C t d4 → Calls Tryz.prog 98 #[.pointer (some ⟨C, 0, none⟩)] w fun e w' => e = .returned (.tuple #[]) ∧ Below w.heap.size w w') := end_ok C t d4 ht hend
    clear HP hend
    go_wp2_with fail
    refine (K.out _ HS5.out.c).mono ?_
    rintro e w6 ⟨rfl, hb⟩
    have HS6 : Hid (SI w w6 C t d4 ⟨q0, n0, p0, q1, n1, p1, q2, n2, p2, q3, n3, p3, q4, n0, p4⟩ ⟨l0, l1, l2, l3, l4⟩) := HS5.out.go (HS5.out.c.on hb) (grown_bel (World.grownBy.refl _ _) hb)
    clear hb HS5 K kv
    have kb := boxO_cells HS6.out.b
    dsimp only at kb
    have kz := boxO_cells HS6.out.z
    have HF : Hid (OwnX (((((w6.setCell ⟨w.heap.size, 0, none⟩ (.slice q0 n0 p0)).setCell ⟨w.heap.size, 1, none⟩ (.slice q1 n1 p1)).setCell ⟨w.heap.size, 2, none⟩ (.slice q2 n2 p2)).setCell ⟨w.heap.size, 3, none⟩ (.slice q3 n3 p3)).setCell ⟨w.heap.size, 4, none⟩ (.slice q4 n0 p4)) w.heap.size ⟨q0, n0, p0, q1, n1, p1, q2, n2, p2, q3, n3, p3, q4, n0, p4⟩ ⟨l0, l1, l2, l3, l4⟩) := HS6.out.o.put5 ⟨own_far11 HS6.out.o.o0 HS6.out.z (by decide), own_far11 HS6.out.o.o1 HS6.out.z (by decide), own_far11 HS6.out.o.o2 HS6.out.z (by decide), own_far11 HS6.out.o.o3 HS6.out.z (by decide), own_far11 HS6.out.o.o4 HS6.out.z (by decide)⟩
    have HGF : Hid (w.grownBy (((((w6.setCell ⟨w.heap.size, 0, none⟩ (.slice q0 n0 p0)).setCell ⟨w.heap.size, 1, none⟩ (.slice q1 n1 p1)).setCell ⟨w.heap.size, 2, none⟩ (.slice q2 n2 p2)).setCell ⟨w.heap.size, 3, none⟩ (.slice q3 n3 p3)).setCell ⟨w.heap.size, 4, none⟩ (.slice q4 n0 p4)) (some C)) := grown_put13 (grown_put13 (grown_put13 (grown_put13 (grown_put13 HS6.out.g (Nat.le_refl _) _) (Nat.le_refl _) _) (Nat.le_refl _) _) (Nat.le_refl _) _) (Nat.le_refl _) _
    clear HS6
    go_wp2
    refine bodyPost_ret (v := .agg #[.slice q0 n0 p0, .slice q1 n1 p1, .slice q2 n2 p2, .slice q3 n3 p3, .slice q4 n0 p4]) (by simp [results, Tryz.results58, go_sem, kz]) rfl (.inl ⟨⟨q0, n0, p0, q1, n1, p1, q2, n2, p2, q3, n3, p3, q4, n0, p4⟩, ⟨l0, l1, l2, l3, l4⟩, rfl, HN.out, HCap.out, HF.out, HGF.out⟩)
  · have HN : Hid (parse t = none) := by show _ = _; rw [HP.out]; exact if_neg hend
    have K : Hid (∀ w, RdrX w C t d4 → Calls Tryz.prog 98 #[.pointer (some ⟨C, 0, none⟩)] w fun e w' => e = .panicked [unr] ∧ w.grownBy w' (some C)) := end_no C t d4 ht hend
    clear HP hend
    go_wp2_with fail
    refine (K.out _ HS5.out.c).mono ?_
    rintro e wn ⟨rfl, hg⟩
    have HG : Hid (w.grownBy wn (some C)) := grown_more HS5.out.g hg
    clear hg HS5 K kv
    go_wp2
    exact ⟨rfl, .inr ⟨rfl, HN.out, HG.out⟩⟩
end Go.Proofs.YtadbekhekggpkaaGreatDoor
