/-
  A set-up read out of a text: mathematics: what is read is the text's own (soundness), and a right set-up's text is read (completeness).
-/
import Derived.Test.YtadbekhekggpkaaGreatDoorReadM
import Derived.Test.YtadbekhekggpkaaGreatDoorZA
namespace Go.Proofs.YtadbekhekggpkaaGreatDoor
open Go.RowKit Go.PlainAid
set_option linter.unusedVariables false

def rdN (t : ByteArray) (a : Nat) : Option (Int × Nat) := V.rv t (a : Int)
def rdP (t : ByteArray) (a : Nat) : Option ((Int × Int) × Nat) := (rdN t a).bind fun p => (rdN t p.2).bind fun q => some ((p.1, q.1), q.2)
def rdU (t : ByteArray) (a : Nat) : Option (Rule × Nat) := (rdN t a).bind fun p => (rdN t p.2).bind fun q => (rdN t q.2).bind fun r => some ((p.1, q.1, r.1), r.2)
def rdO (t : ByteArray) (a : Nat) : Option (Prt × Nat) := (rdN t a).bind fun p => (rdN t p.2).bind fun q => (rdN t q.2).bind fun r => (rdN t r.2).bind fun u => (rdN t u.2).bind fun v => some ((p.1, q.1, r.1, u.1, v.1), v.2)
def rdS (t : ByteArray) (a : Nat) : Option (ByteArray × Nat) := (rdN t a).bind fun p => if p.1 ≤ 20000 ∧ p.1.toNat + p.2 ≤ t.size then some (t.extract p.2 (p.2 + p.1.toNat), p.2 + p.1.toNat) else none
def rdC (t : ByteArray) (a : Nat) (most : Int) : Option (Nat × Nat) := (rdN t a).bind fun p => if most < p.1 then none else some (p.1.toNat, p.2)
def rdL {α : Type} (f : Nat → Option (α × Nat)) : Nat → Nat → Option (List α × Nat)
  | 0, a => some ([], a)
  | n + 1, a => (f a).bind fun p => (rdL f n p.2).bind fun q => some (p.1 :: q.1, q.2)
def k5 (t : ByteArray) (R W : List (Int × Int)) (O : List Prt) (U : List Rule) (a : Nat) : Option SX := (rdL (rdS t) R.length a).bind fun r => if r.2 = t.size then some ⟨R, W, O, U, r.1⟩ else none
def k4 (t : ByteArray) (R W : List (Int × Int)) (O : List Prt) (a : Nat) : Option SX := (rdC t a 8).bind fun c => (rdL (rdU t) c.1 c.2).bind fun r => k5 t R W O r.1 r.2
def k3 (t : ByteArray) (R W : List (Int × Int)) (a : Nat) : Option SX := (rdC t a 6).bind fun c => (rdL (rdO t) c.1 c.2).bind fun r => k4 t R W r.1 r.2
def k2 (t : ByteArray) (R : List (Int × Int)) (a : Nat) : Option SX := (rdC t a 12).bind fun c => (rdL (rdP t) c.1 c.2).bind fun r => k3 t R r.1 r.2
/-- the set-up that a text tells, right or not -/
def parse (t : ByteArray) : Option SX := (rdC t 0 4).bind fun c => (rdL (rdP t) c.1 c.2).bind fun r => k2 t r.1 r.2

/-! ### what is read is the text's own -/
/-- t begins with P, which ends at a -/
def Pfx (t P : ByteArray) (a : Nat) : Prop := ∃ r : ByteArray, t = P ++ r ∧ P.size = a
theorem rvF_ext {s : ByteArray} {a : Nat} : ∀ (f k : Nat) (N S : Int) {M : Int} {c : Nat}, V.rvF s a f k N S = some (M, c) → Plain.vt M.toNat = (s.extract a c).toList
  | 0, k, N, S, M, c, h => by simp [V.rvF] at h
  | f + 1, k, N, S, M, c, h => by
    unfold V.rvF at h
    split at h
    · split at h
      · unfold V.fin at h
        split at h
        · rename_i hh
          simp at h
          obtain ⟨rfl, rfl⟩ := h
          exact hh.2
        · simp at h
      · exact rvF_ext f (k + 1) _ _ h
    · simp at h
theorem rv_ext {s : ByteArray} {a : Nat} {M : Int} {c : Nat} (h : V.rv s (a : Int) = some (M, c)) : Plain.vt M.toNat = (s.data.toList.drop a).take (c - a) ∧ a ≤ s.size ∧ c ≤ s.size ∧ 0 ≤ M ∧ M ≤ 1000000000 := by
  have h2 := V.rv_some h
  unfold V.rv at h
  split at h
  · rename_i hh
    have := rvF_ext 5 _ 0 1 h
    rw [ByteArray.toList_eq, V.ext_list] at this
    exact ⟨by simpa using this, by omega, h2.2.2, h2.1, h2.2.1⟩
  · simp at h
theorem ba_of {a b : ByteArray} (h : a.data.toList = b.data.toList) : a = b := by
  apply ByteArray.ext
  exact Array.toList_inj.1 h
theorem pfx_N {t P : ByteArray} {a : Nat} {n : Int} {c : Nat} (h : Pfx t P a) (hr : rdN t a = some (n, c)) : Pfx t (P ++ vX n) c ∧ 0 ≤ n ∧ n ≤ 1000000000 := by
  obtain ⟨r, ht, ha⟩ := h
  obtain ⟨h1, h2, h3, h4, h5⟩ := rv_ext hr
  have hL : t.data.toList = P.data.toList ++ r.data.toList := by rw [ht, ba_list]
  have hs : t.size = P.size + r.size := by rw [ht, ba_size]
  rw [hL, ← ha, ← ba_len P, List.drop_left, ba_len P, ha] at h1
  have hp := Plain.vt_pos n.toNat
  have hlen : (Plain.vt n.toNat).length = c - a := by
    rw [h1, List.length_take, ba_len]
    omega
  refine ⟨⟨⟨(r.data.toList.drop (c - a)).toArray⟩, ?_, ?_⟩, h4, h5⟩
  · apply ba_of
    rw [ba_list, ba_list, vX_list, hL, h1, List.append_assoc]
    simp
  · rw [ba_size, ← ba_len (vX n), vX_list, hlen]
    omega
theorem bind_some {α β : Type} {o : Option α} {f : α → Option β} {b : β} (h : o.bind f = some b) : ∃ a, o = some a ∧ f a = some b := by
  cases o with
  | none => simp at h
  | some a => exact ⟨a, rfl, h⟩
def gP (x : Int × Int) : ByteArray := vX x.1 ++ vX x.2
def gU (x : Rule) : ByteArray := vX x.1 ++ vX x.2.1 ++ vX x.2.2
def gO (x : Prt) : ByteArray := vX x.1 ++ vX x.2.1 ++ vX x.2.2.1 ++ vX x.2.2.2.1 ++ vX x.2.2.2.2
def gS (x : ByteArray) : ByteArray := vX x.size ++ x
theorem pfx_P {t P : ByteArray} {a : Nat} {x : Int × Int} {c : Nat} (h : Pfx t P a) (hr : rdP t a = some (x, c)) : Pfx t (P ++ gP x) c ∧ True := by
  obtain ⟨⟨x0, c0⟩, e0, hr⟩ := bind_some hr
  obtain ⟨⟨x1, c1⟩, e1, hr⟩ := bind_some hr
  cases hr
  have h1 := pfx_N h e0
  have h2 := pfx_N h1.1 e1
  exact ⟨by rw [gP, ← ba_assoc]; exact h2.1, trivial⟩
theorem pfx_U {t P : ByteArray} {a : Nat} {x : Rule} {c : Nat} (h : Pfx t P a) (hr : rdU t a = some (x, c)) : Pfx t (P ++ gU x) c ∧ (wfI x.1 ∧ wfI x.2.1 ∧ wfI x.2.2) := by
  obtain ⟨⟨x0, c0⟩, e0, hr⟩ := bind_some hr
  obtain ⟨⟨x1, c1⟩, e1, hr⟩ := bind_some hr
  obtain ⟨⟨x2, c2⟩, e2, hr⟩ := bind_some hr
  cases hr
  have h1 := pfx_N h e0
  have h2 := pfx_N h1.1 e1
  have h3 := pfx_N h2.1 e2
  refine ⟨by rw [gU, ← ba_assoc, ← ba_assoc]; exact h3.1, ?_⟩
  show wfI x0 ∧ wfI x1 ∧ wfI x2
  exact ⟨WalkArith.wf_i64 (by omega), WalkArith.wf_i64 (by omega), WalkArith.wf_i64 (by omega)⟩
theorem pfx_O {t P : ByteArray} {a : Nat} {x : Prt} {c : Nat} (h : Pfx t P a) (hr : rdO t a = some (x, c)) : Pfx t (P ++ gO x) c ∧ True := by
  obtain ⟨⟨x0, c0⟩, e0, hr⟩ := bind_some hr
  obtain ⟨⟨x1, c1⟩, e1, hr⟩ := bind_some hr
  obtain ⟨⟨x2, c2⟩, e2, hr⟩ := bind_some hr
  obtain ⟨⟨x3, c3⟩, e3, hr⟩ := bind_some hr
  obtain ⟨⟨x4, c4⟩, e4, hr⟩ := bind_some hr
  cases hr
  have h1 := pfx_N h e0
  have h2 := pfx_N h1.1 e1
  have h3 := pfx_N h2.1 e2
  have h4 := pfx_N h3.1 e3
  have h5 := pfx_N h4.1 e4
  exact ⟨by rw [gO, ← ba_assoc, ← ba_assoc, ← ba_assoc, ← ba_assoc]; exact h5.1, trivial⟩
theorem pfx_S {t P : ByteArray} {a : Nat} {x : ByteArray} {c : Nat} (h : Pfx t P a) (hr : rdS t a = some (x, c)) : Pfx t (P ++ gS x) c ∧ x.size ≤ 20000 := by
  obtain ⟨⟨x0, c0⟩, e0, hr⟩ := bind_some hr
  simp only at hr
  split at hr
  · rename_i hh
    cases hr
    obtain ⟨h1, h2, h3⟩ := pfx_N h e0
    obtain ⟨r, ht, ha⟩ := h1
    have hs : t.size = (P ++ vX x0).size + r.size := by rw [ht, ba_size]
    have hx : (t.extract c0 (c0 + x0.toNat)).data.toList = r.data.toList.take x0.toNat := by
      rw [V.ext_list, ht, ba_list, ← ha, ← ba_len (P ++ vX x0), List.drop_left]
      congr 1
      omega
    have hz : (t.extract c0 (c0 + x0.toNat)).size = x0.toNat := by
      rw [← ba_len, hx, List.length_take, ba_len]
      omega
    refine ⟨⟨⟨(r.data.toList.drop x0.toNat).toArray⟩, ?_, ?_⟩, by rw [hz]; omega⟩
    · apply ba_of
      rw [gS, hz, Int.toNat_of_nonneg h2]
      conv => lhs; rw [ht]
      simp only [ba_list, hx, List.append_assoc, List.take_append_drop]
    · rw [gS, hz, Int.toNat_of_nonneg h2, ← ba_assoc, ba_size, hz, ha]
  · simp at hr
theorem pfx_L {α : Type} {t : ByteArray} {f : Nat → Option (α × Nat)} {g : α → ByteArray} {T : List α → ByteArray} {Q : α → Prop} (h0 : T [] = ⟨#[]⟩) (h1 : ∀ x l, T (x :: l) = g x ++ T l)
    (hf : ∀ P a x c, Pfx t P a → f a = some (x, c) → Pfx t (P ++ g x) c ∧ Q x) : ∀ (n : Nat) (P : ByteArray) (a : Nat) (l : List α) (c : Nat), Pfx t P a → rdL f n a = some (l, c) → Pfx t (P ++ T l) c ∧ l.length = n ∧ ∀ x ∈ l, Q x
  | 0, P, a, l, c, h, hr => by
    simp only [rdL] at hr
    cases hr
    exact ⟨by rw [h0, ba_nil]; exact h, rfl, fun x hx => by cases hx⟩
  | n + 1, P, a, l, c, h, hr => by
    simp only [rdL] at hr
    obtain ⟨⟨x, d⟩, e0, hr⟩ := bind_some hr
    obtain ⟨⟨l', d'⟩, e1, hr⟩ := bind_some hr
    cases hr
    have h2 := hf _ _ _ _ h e0
    obtain ⟨h3, h4, h5⟩ := pfx_L h0 h1 hf n _ _ _ _ h2.1 e1
    refine ⟨by rw [h1, ← ba_assoc]; exact h3, by simp [h4], fun y hy => ?_⟩
    rcases List.mem_cons.1 hy with rfl | hy
    · exact h2.2
    · exact h5 y hy
theorem pfx_C {t P : ByteArray} {a : Nat} {most : Int} {n c : Nat} (h : Pfx t P a) (hr : rdC t a most = some (n, c)) : Pfx t (P ++ vX n) c ∧ (n : Int) ≤ most := by
  obtain ⟨⟨x0, c0⟩, e0, hr⟩ := bind_some hr
  simp only at hr
  split at hr
  · simp at hr
  · rename_i hh
    cases hr
    obtain ⟨h1, h2, h3⟩ := pfx_N h e0
    rw [Int.toNat_of_nonneg h2]
    exact ⟨h1, by omega⟩
/-- what a text that is read tells of its set-up -/
structure ParsedX (t : ByteArray) (X : SX) : Prop where
  txt : txt X = t
  r : X.R.length ≤ 4
  w : X.W.length ≤ 12
  o : X.O.length ≤ 6
  u : X.U.length ≤ 8
  s : X.S.length = X.R.length
  z : ∀ x ∈ X.S, x.size ≤ 20000
  f : ∀ x ∈ X.U, wfI x.1 ∧ wfI x.2.1 ∧ wfI x.2.2
theorem parse_sound {t : ByteArray} {X : SX} (h : parse t = some X) : ParsedX t X := by
  obtain ⟨⟨n0, a0⟩, c0, h⟩ := bind_some h
  obtain ⟨⟨R, b0⟩, l0, h⟩ := bind_some h
  obtain ⟨⟨n1, a1⟩, c1, h⟩ := bind_some h
  obtain ⟨⟨W, b1⟩, l1, h⟩ := bind_some h
  obtain ⟨⟨n2, a2⟩, c2, h⟩ := bind_some h
  obtain ⟨⟨O, b2⟩, l2, h⟩ := bind_some h
  obtain ⟨⟨n3, a3⟩, c3, h⟩ := bind_some h
  obtain ⟨⟨U, b3⟩, l3, h⟩ := bind_some h
  obtain ⟨⟨S, b4⟩, l4, h⟩ := bind_some h
  simp only at h
  split at h
  · rename_i hend
    cases h
    have p0 : Pfx t ⟨#[]⟩ 0 := ⟨t, by rw [ba_nil'], rfl⟩
    obtain ⟨q0, m0⟩ := pfx_C p0 c0
    obtain ⟨p1, e0, _⟩ := pfx_L (T := pT) rfl (fun x l => by rw [pT, gP]) (fun _ _ _ _ => pfx_P) _ _ _ _ _ q0 l0
    obtain ⟨q1, m1⟩ := pfx_C p1 c1
    obtain ⟨p2, e1, _⟩ := pfx_L (T := pT) rfl (fun x l => by rw [pT, gP]) (fun _ _ _ _ => pfx_P) _ _ _ _ _ q1 l1
    obtain ⟨q2, m2⟩ := pfx_C p2 c2
    obtain ⟨p3, e2, _⟩ := pfx_L (T := oT) rfl (fun x l => by rw [oT, gO]) (fun _ _ _ _ => pfx_O) _ _ _ _ _ q2 l2
    obtain ⟨q3, m3⟩ := pfx_C p3 c3
    obtain ⟨p4, e3, wf⟩ := pfx_L (T := uT) rfl (fun x l => by rw [uT, gU]) (fun _ _ _ _ => pfx_U) _ _ _ _ _ q3 l3
    obtain ⟨p5, e4, sz⟩ := pfx_L (T := sT) rfl (fun x l => by rw [sT, gS]) (fun _ _ _ _ => pfx_S) _ _ _ _ _ p4 l4
    subst e0 e1 e2 e3
    refine ⟨?_, by show R.length ≤ 4; omega, by show W.length ≤ 12; omega, by show O.length ≤ 6; omega, by show U.length ≤ 8; omega, e4, sz, wf⟩
    obtain ⟨r, ht, hs⟩ := p5
    have hr : r = ⟨#[]⟩ := by
      have hh := congrArg ByteArray.size ht
      rw [ba_size] at hh
      have : r.size = 0 := by omega
      apply ba_of
      exact List.eq_nil_of_length_eq_zero (by rw [ba_len]; exact this)
    subst hr
    rw [ba_nil] at ht
    rw [ht]
    simp only [ba_nil', Go.Proofs.YtadbekhekggpkaaGreatDoor.txt, tD, tC, tB, tA, ba_assoc]
  · simp at h
/-! ### a right set-up's text is read -/
theorem cmp_N {t P r : ByteArray} {m : Int} (h : t = P ++ (vX m ++ r)) (h0 : 0 ≤ m) (h1 : m ≤ 1000) : rdN t P.size = some (m, (P ++ vX m).size) := rv_pre (by rw [h, ba_assoc]) h0 h1
theorem cmp_P {t P r : ByteArray} {x : Int × Int} (hx : (0 ≤ x.1 ∧ x.1 ≤ 1000) ∧ (0 ≤ x.2 ∧ x.2 ≤ 1000)) (h : t = P ++ (gP x ++ r)) : rdP t P.size = some (x, (P ++ gP x).size) := by
  obtain ⟨⟨a0, b0⟩, a1, b1⟩ := hx
  rw [gP] at h ⊢
  have h1 := cmp_N (t := t) (m := x.1) (P := P) (r := vX x.2 ++ r) (by rw [h]; simp only [ba_assoc]) a0 b0
  have h2 := cmp_N (t := t) (m := x.2) (P := P ++ vX x.1) (r := r) (by rw [h]; simp only [ba_assoc]) a1 b1
  simp only [rdP, h1, h2, Option.bind_some, ba_assoc]
theorem cmp_U {t P r : ByteArray} {x : Rule} (hx : (0 ≤ x.1 ∧ x.1 ≤ 1000) ∧ (0 ≤ x.2.1 ∧ x.2.1 ≤ 1000) ∧ (0 ≤ x.2.2 ∧ x.2.2 ≤ 1000)) (h : t = P ++ (gU x ++ r)) : rdU t P.size = some (x, (P ++ gU x).size) := by
  obtain ⟨⟨a0, b0⟩, ⟨a1, b1⟩, a2, b2⟩ := hx
  rw [gU] at h ⊢
  have h1 := cmp_N (t := t) (m := x.1) (P := P) (r := vX x.2.1 ++ (vX x.2.2 ++ r)) (by rw [h]; simp only [ba_assoc]) a0 b0
  have h2 := cmp_N (t := t) (m := x.2.1) (P := P ++ vX x.1) (r := vX x.2.2 ++ r) (by rw [h]; simp only [ba_assoc]) a1 b1
  have h3 := cmp_N (t := t) (m := x.2.2) (P := P ++ vX x.1 ++ vX x.2.1) (r := r) (by rw [h]; simp only [ba_assoc]) a2 b2
  simp only [rdU, h1, h2, h3, Option.bind_some]
  simp only [ba_assoc]
theorem cmp_O {t P r : ByteArray} {x : Prt} (hx : (0 ≤ x.1 ∧ x.1 ≤ 1000) ∧ (0 ≤ x.2.1 ∧ x.2.1 ≤ 1000) ∧ (0 ≤ x.2.2.1 ∧ x.2.2.1 ≤ 1000) ∧ (0 ≤ x.2.2.2.1 ∧ x.2.2.2.1 ≤ 1000) ∧ (0 ≤ x.2.2.2.2 ∧ x.2.2.2.2 ≤ 1000)) (h : t = P ++ (gO x ++ r)) : rdO t P.size = some (x, (P ++ gO x).size) := by
  obtain ⟨⟨a0, b0⟩, ⟨a1, b1⟩, ⟨a2, b2⟩, ⟨a3, b3⟩, a4, b4⟩ := hx
  rw [gO] at h ⊢
  have h1 := cmp_N (t := t) (m := x.1) (P := P) (r := vX x.2.1 ++ (vX x.2.2.1 ++ (vX x.2.2.2.1 ++ (vX x.2.2.2.2 ++ r)))) (by rw [h]; simp only [ba_assoc]) a0 b0
  have h2 := cmp_N (t := t) (m := x.2.1) (P := P ++ vX x.1) (r := vX x.2.2.1 ++ (vX x.2.2.2.1 ++ (vX x.2.2.2.2 ++ r))) (by rw [h]; simp only [ba_assoc]) a1 b1
  have h3 := cmp_N (t := t) (m := x.2.2.1) (P := P ++ vX x.1 ++ vX x.2.1) (r := vX x.2.2.2.1 ++ (vX x.2.2.2.2 ++ r)) (by rw [h]; simp only [ba_assoc]) a2 b2
  have h4 := cmp_N (t := t) (m := x.2.2.2.1) (P := P ++ vX x.1 ++ vX x.2.1 ++ vX x.2.2.1) (r := vX x.2.2.2.2 ++ r) (by rw [h]; simp only [ba_assoc]) a3 b3
  have h5 := cmp_N (t := t) (m := x.2.2.2.2) (P := P ++ vX x.1 ++ vX x.2.1 ++ vX x.2.2.1 ++ vX x.2.2.2.1) (r := r) (by rw [h]; simp only [ba_assoc]) a4 b4
  simp only [rdO, h1, h2, h3, h4, h5, Option.bind_some]
  simp only [ba_assoc]
theorem cmp_S {t P r : ByteArray} {x : ByteArray} (hx : x.size ≤ 120) (h : t = P ++ (gS x ++ r)) : rdS t P.size = some (x, (P ++ gS x).size) := by
  rw [gS] at h ⊢
  have h1 := cmp_N (t := t) (P := P) (r := x ++ r) (by rw [h]; simp only [ba_assoc]) (m := (x.size : Int)) (by omega) (by omega)
  have hs : t.size = P.size + (vX x.size).size + x.size + r.size := by rw [h]; simp only [ba_size]; omega
  have he : t.extract (P ++ vX x.size).size ((P ++ vX x.size).size + x.size) = x := by
    rw [show t = (P ++ vX x.size) ++ x ++ r by rw [h]; simp only [ba_assoc]]
    exact ext_mid _ _ _
  simp only [rdS, h1, Option.bind_some, Int.toNat_natCast]
  rw [if_pos ⟨by omega, by rw [ba_size]; omega⟩, he]
  simp only [ba_size, Nat.add_assoc]
theorem cmp_L {α : Type} {t : ByteArray} {f : Nat → Option (α × Nat)} {g : α → ByteArray} {T : List α → ByteArray} (h0 : T [] = ⟨#[]⟩) (h1 : ∀ x l, T (x :: l) = g x ++ T l) :
    ∀ (l : List α) (P r : ByteArray), (∀ x ∈ l, ∀ P r, t = P ++ (g x ++ r) → f P.size = some (x, (P ++ g x).size)) → t = P ++ (T l ++ r) → rdL f l.length P.size = some (l, (P ++ T l).size)
  | [], P, r, _, h => by rw [h0, ba_nil]; rfl
  | x :: l, P, r, hf, h => by
    rw [h1] at h ⊢
    have h2 := hf x List.mem_cons_self P (T l ++ r) (by rw [h]; simp only [ba_assoc])
    have h3 := cmp_L h0 h1 l (P ++ g x) r (fun y hy => hf y (List.mem_cons_of_mem _ hy)) (by rw [h]; simp only [ba_assoc])
    simp only [List.length_cons, rdL, h2, h3, Option.bind_some, ba_assoc]
theorem cmp_C {t P r : ByteArray} {n : Nat} {most : Int} (h : t = P ++ (vX n ++ r)) (hn : (n : Int) ≤ most) (hm : most ≤ 1000) : rdC t P.size most = some (n, (P ++ vX n).size) := by
  have h1 := cmp_N h (by omega) (by omega)
  simp only [rdC, h1, Option.bind_some, Int.toNat_natCast]
  rw [if_neg (by omega)]
theorem parse_whole {t : ByteArray} {Y : SX} (hY : RightX Y) (ht : Go.Proofs.YtadbekhekggpkaaGreatDoor.txt Y = t) : parse t = some Y := by
  obtain ⟨⟨r1, r2⟩, ⟨w1, w2⟩, ⟨o1, o2⟩, ⟨u1, u2⟩, s1, s2⟩ := hY.num
  have hSR : Y.S.length = Y.R.length := hY.2.2.2.2.1.1
  obtain ⟨R, W, O, U, S⟩ := Y
  have ht' : t = vX R.length ++ (pT R ++ (vX W.length ++ (pT W ++ (vX O.length ++ (oT O ++ (vX U.length ++ (uT U ++ sT S))))))) := by
    rw [← ht]
    simp only [Go.Proofs.YtadbekhekggpkaaGreatDoor.txt, tD, tC, tB, tA, ba_assoc]
  dsimp only at r1 r2 w1 w2 o1 o2 u1 u2 s1 s2 hSR
  have e0 := cmp_C (t := t) (P := ⟨#[]⟩) (n := R.length) (most := 4) (by rw [ba_nil']; exact ht') (by omega) (by omega)
  have e1 := cmp_L (f := rdP t) (T := pT) rfl (fun x l => by rw [pT, gP]) R ((⟨#[]⟩ : ByteArray) ++ vX R.length) _ (fun x hx P r => cmp_P (by obtain ⟨j, hj, rfl⟩ := List.getElem_of_mem hx; exact r2 j hj)) (by rw [ba_nil']; exact ht')
  have e2 := cmp_C (t := t) (P := (⟨#[]⟩ : ByteArray) ++ vX R.length ++ pT R) (n := W.length) (most := 12) (by rw [ba_nil', ht']; simp only [ba_assoc]; rfl) (by omega) (by omega)
  have e3 := cmp_L (f := rdP t) (T := pT) rfl (fun x l => by rw [pT, gP]) W ((⟨#[]⟩ : ByteArray) ++ vX R.length ++ pT R ++ vX W.length) _ (fun x hx P r => cmp_P (by obtain ⟨j, hj, rfl⟩ := List.getElem_of_mem hx; exact w2 j hj)) (by rw [ba_nil', ht']; simp only [ba_assoc]; rfl)
  have e4 := cmp_C (t := t) (P := (⟨#[]⟩ : ByteArray) ++ vX R.length ++ pT R ++ vX W.length ++ pT W) (n := O.length) (most := 6) (by rw [ba_nil', ht']; simp only [ba_assoc]; rfl) (by omega) (by omega)
  have e5 := cmp_L (f := rdO t) (T := oT) rfl (fun x l => by rw [oT, gO]) O ((⟨#[]⟩ : ByteArray) ++ vX R.length ++ pT R ++ vX W.length ++ pT W ++ vX O.length) _ (fun x hx P r => cmp_O (by obtain ⟨j, hj, rfl⟩ := List.getElem_of_mem hx; exact o2 j hj)) (by rw [ba_nil', ht']; simp only [ba_assoc]; rfl)
  have e6 := cmp_C (t := t) (P := (⟨#[]⟩ : ByteArray) ++ vX R.length ++ pT R ++ vX W.length ++ pT W ++ vX O.length ++ oT O) (n := U.length) (most := 8) (by rw [ba_nil', ht']; simp only [ba_assoc]; rfl) (by omega) (by omega)
  have e7 := cmp_L (f := rdU t) (T := uT) rfl (fun x l => by rw [uT, gU]) U ((⟨#[]⟩ : ByteArray) ++ vX R.length ++ pT R ++ vX W.length ++ pT W ++ vX O.length ++ oT O ++ vX U.length) _ (fun x hx P r => cmp_U (by obtain ⟨j, hj, rfl⟩ := List.getElem_of_mem hx; exact u2 j hj)) (by rw [ba_nil', ht']; simp only [ba_assoc]; rfl)
  have e8 := cmp_L (f := rdS t) (T := sT) rfl (fun x l => by rw [sT, gS]) S ((⟨#[]⟩ : ByteArray) ++ vX R.length ++ pT R ++ vX W.length ++ pT W ++ vX O.length ++ oT O ++ vX U.length ++ uT U) ⟨#[]⟩ (fun x hx P r => cmp_S (by obtain ⟨j, hj, rfl⟩ := List.getElem_of_mem hx; exact s2 j hj)) (by rw [ba_nil', ba_nil, ht']; simp only [ba_assoc])
  rw [hSR] at e8
  have e9 : ((⟨#[]⟩ : ByteArray) ++ vX R.length ++ pT R ++ vX W.length ++ pT W ++ vX O.length ++ oT O ++ vX U.length ++ uT U ++ sT S).size = t.size := by rw [ba_nil', ht']; simp only [ba_assoc]
  have e0' : rdC t 0 4 = _ := e0
  simp only [parse, k2, k3, k4, k5, e0', e1, e2, e3, e4, e5, e6, e7, e8, Option.bind_some, e9, if_true]
end Go.Proofs.YtadbekhekggpkaaGreatDoor

namespace Go.Proofs.YtadbekhekggpkaaGreatDoor
open Go.RowKit Go.PlainAid
set_option linter.unusedVariables false

theorem grown_put13 {w W : World} {e : Option Nat} {k i : Nat} (h : w.grownBy W e) (hk : w.heap.size ≤ k) (u : Value) : w.grownBy (W.setCell ⟨k, i, none⟩ u) e := by
  have hs : (W.setCell ⟨k, i, none⟩ u).heap.size = W.heap.size := by simp
  exact ⟨h.os, h.tape, h.output, by rw [hs]; exact h.size, fun m hm hne => (Below.heap_setCell _ _ _ _ (show m ≠ k by omega)).trans (h.block m hm hne)⟩
theorem grown_more {w W W' : World} {C : Nat} (h : w.grownBy W (some C)) (h' : W.grownBy W' (some C)) : w.grownBy W' (some C) :=
  ⟨h'.os.trans h.os, h'.tape.trans h.tape, h'.output.trans h.output, Nat.le_trans h.size h'.size, fun m hm hne => (h'.block m (Nat.lt_of_lt_of_le hm h.size) hne).trans (h.block m hm hne)⟩
theorem row_gr13 {w W : World} {k C : Nat} {o : Obj} (hg : w.grownBy W (some C)) (h : w.heap[k]? = some o) (hk : k ≠ C) : W.heap[k]? = some o := (hg.block k (row_lt h) (fun e' => hk (by cases e'; rfl))).trans h

set_option maxRecDepth 100000 in
set_option maxHeartbeats 1000000 in
theorem region_ok (C : Nat) (t : ByteArray) (a : Nat) (x0 x1 : Int) (c : Nat) (ht : t.size ≤ 1048576) (hR : rdP t a = some ((x0, x1), c)) (w : World) (hC : RdrX w C t a) :
    Calls Tryz.prog 89 #[.pointer (some ⟨C, 0, none⟩)] w fun e w' => e = .returned (.agg #[.int .i64 x0, .int .i64 x1]) ∧ RdrX w' C t c ∧ w.grownBy w' (some C) := by
  obtain ⟨⟨y0, c0⟩, e0, hR⟩ := bind_some hR
  obtain ⟨⟨y1, c1⟩, e1, hR⟩ := bind_some hR
  cases hR
  have K0 : Hid (∀ w, RdrX w C t a → Calls Tryz.prog 113 #[.pointer (some ⟨C, 0, none⟩)] w fun e w' => e = .returned (.int .i64 y0) ∧ RdrX w' C t c0 ∧ w.grownBy w' (some C)) := number_ok C t a y0 c0 ht e0
  have K1 : Hid (∀ w, RdrX w C t c0 → Calls Tryz.prog 113 #[.pointer (some ⟨C, 0, none⟩)] w fun e w' => e = .returned (.int .i64 y1) ∧ RdrX w' C t c1 ∧ w.grownBy w' (some C)) := number_ok C t c0 y1 c1 ht e1
  have hCl : C < w.heap.size := row_lt hC
  have HC0 : Hid (RdrX (w.alloc (.cells #[.int .i64 0, .int .i64 0] 48)) C t a) := hC.on ((Below.refl _ _).alloc (Nat.le_refl _) _)
  have HZ0 : Hid ((w.alloc (.cells #[.int .i64 0, .int .i64 0] 48)).heap[w.heap.size]? = some (.cells #[.int .i64 0, .int .i64 0] 48)) := heap_new w _
  have HG0 : Hid (w.grownBy (w.alloc (.cells #[.int .i64 0, .int .i64 0] 48)) (some C)) := World.grownBy_alloc _ _ _
  clear hC e0 e1
  go_enter Tryz.func89, Tryz.ntmps89
  go_wp2_with fail
  refine (K0.out _ HC0.out).mono ?_
  rintro e w1 ⟨rfl, hC1, hg⟩
  have HC1 : Hid (RdrX w1 C t c0) := hC1
  have HZ1 : Hid (w1.heap[w.heap.size]? = some (.cells #[.int .i64 0, .int .i64 0] 48)) := row_gr13 hg HZ0.out (by omega)
  have HG1 : Hid (w.grownBy w1 (some C)) := grown_more HG0.out hg
  clear hC1 hg HC0 HZ0 HG0
  go_wp2_with fail
  refine (K1.out _ HC1.out).mono ?_
  rintro e w2 ⟨rfl, hC1, hg⟩
  have HC2 : Hid (RdrX w2 C t c1) := hC1
  have HZ2 : Hid (w2.heap[w.heap.size]? = some (.cells #[.int .i64 0, .int .i64 0] 48)) := row_gr13 hg HZ1.out (by omega)
  have HG2 : Hid (w.grownBy w2 (some C)) := grown_more HG1.out hg
  clear hC1 hg HC1 HZ1 HG1
  have kz := R.row2_cells HZ2.out
  go_wp2
  refine bodyPost_ret (v := .agg #[.int .i64 y0, .int .i64 y1]) (by simp [results, Tryz.results89, go_sem, kz]) rfl ⟨rfl, (set_far (set_far HC2.out (by omega)) (by omega)), (grown_put13 (grown_put13 HG2.out (Nat.le_refl _) _) (Nat.le_refl _) _)⟩

set_option maxRecDepth 100000 in
set_option maxHeartbeats 1000000 in
theorem region_no (C : Nat) (t : ByteArray) (a : Nat) (ht : t.size ≤ 1048576) (hR : rdP t a = none) (w : World) (hC : RdrX w C t a) :
    Calls Tryz.prog 89 #[.pointer (some ⟨C, 0, none⟩)] w fun e w' => e = .panicked [unr] ∧ w.grownBy w' (some C) := by
  have hCl : C < w.heap.size := row_lt hC
  have HC0 : Hid (RdrX (w.alloc (.cells #[.int .i64 0, .int .i64 0] 48)) C t a) := hC.on ((Below.refl _ _).alloc (Nat.le_refl _) _)
  have HG0 : Hid (w.grownBy (w.alloc (.cells #[.int .i64 0, .int .i64 0] 48)) (some C)) := World.grownBy_alloc _ _ _
  have HR : Hid (rdP t a = none) := hR
  clear hC hR
  rcases h0 : V.rv t (a : Int) with _ | ⟨y0, c0⟩
  · have K0 : Hid (∀ w, RdrX w C t a → Calls Tryz.prog 113 #[.pointer (some ⟨C, 0, none⟩)] w fun e w' => e = .panicked [unr] ∧ w.grownBy w' (some C)) := number_no C t a ht h0
    clear HR h0
    go_enter Tryz.func89, Tryz.ntmps89
    go_wp2_with fail
    refine (K0.out _ HC0.out).mono ?_
    rintro e w9 ⟨rfl, hg⟩
    have HG9 : Hid (w.grownBy w9 (some C)) := grown_more HG0.out hg
    clear hg HG0 HC0
    go_wp2
    exact ⟨rfl, rfl, HG9.out⟩
  · have K0 : Hid (∀ w, RdrX w C t a → Calls Tryz.prog 113 #[.pointer (some ⟨C, 0, none⟩)] w fun e w' => e = .returned (.int .i64 y0) ∧ RdrX w' C t c0 ∧ w.grownBy w' (some C)) := number_ok C t a y0 c0 ht h0
    rcases h1 : V.rv t (c0 : Int) with _ | ⟨y1, c1⟩
    · have K1 : Hid (∀ w, RdrX w C t c0 → Calls Tryz.prog 113 #[.pointer (some ⟨C, 0, none⟩)] w fun e w' => e = .panicked [unr] ∧ w.grownBy w' (some C)) := number_no C t c0 ht h1
      clear HR h0 h1
      go_enter Tryz.func89, Tryz.ntmps89
      go_wp2_with fail
      refine (K0.out _ HC0.out).mono ?_
      rintro e w1 ⟨rfl, hC1, hg⟩
      have HC1 : Hid (RdrX w1 C t c0) := hC1
      have HG1 : Hid (w.grownBy w1 (some C)) := grown_more HG0.out hg
      clear hC1 hg HC0 HG0
      go_wp2_with fail
      refine (K1.out _ HC1.out).mono ?_
      rintro e w9 ⟨rfl, hg⟩
      have HG9 : Hid (w.grownBy w9 (some C)) := grown_more HG1.out hg
      clear hg HG1 HC1
      go_wp2
      exact ⟨rfl, rfl, HG9.out⟩
    · have K1 : Hid (∀ w, RdrX w C t c0 → Calls Tryz.prog 113 #[.pointer (some ⟨C, 0, none⟩)] w fun e w' => e = .returned (.int .i64 y1) ∧ RdrX w' C t c1 ∧ w.grownBy w' (some C)) := number_ok C t c0 y1 c1 ht h1
      have hno := HR.out
      simp only [rdP, rdN, h0, h1, Option.bind_some] at hno
      cases hno

set_option maxRecDepth 100000 in
set_option maxHeartbeats 1000000 in
theorem window_ok (C : Nat) (t : ByteArray) (a : Nat) (x0 x1 : Int) (c : Nat) (ht : t.size ≤ 1048576) (hR : rdP t a = some ((x0, x1), c)) (w : World) (hC : RdrX w C t a) :
    Calls Tryz.prog 91 #[.pointer (some ⟨C, 0, none⟩)] w fun e w' => e = .returned (.agg #[.int .i64 x0, .int .i64 x1]) ∧ RdrX w' C t c ∧ w.grownBy w' (some C) := by
  obtain ⟨⟨y0, c0⟩, e0, hR⟩ := bind_some hR
  obtain ⟨⟨y1, c1⟩, e1, hR⟩ := bind_some hR
  cases hR
  have K0 : Hid (∀ w, RdrX w C t a → Calls Tryz.prog 113 #[.pointer (some ⟨C, 0, none⟩)] w fun e w' => e = .returned (.int .i64 y0) ∧ RdrX w' C t c0 ∧ w.grownBy w' (some C)) := number_ok C t a y0 c0 ht e0
  have K1 : Hid (∀ w, RdrX w C t c0 → Calls Tryz.prog 113 #[.pointer (some ⟨C, 0, none⟩)] w fun e w' => e = .returned (.int .i64 y1) ∧ RdrX w' C t c1 ∧ w.grownBy w' (some C)) := number_ok C t c0 y1 c1 ht e1
  have hCl : C < w.heap.size := row_lt hC
  have HC0 : Hid (RdrX (w.alloc (.cells #[.int .i64 0, .int .i64 0] 50)) C t a) := hC.on ((Below.refl _ _).alloc (Nat.le_refl _) _)
  have HZ0 : Hid ((w.alloc (.cells #[.int .i64 0, .int .i64 0] 50)).heap[w.heap.size]? = some (.cells #[.int .i64 0, .int .i64 0] 50)) := heap_new w _
  have HG0 : Hid (w.grownBy (w.alloc (.cells #[.int .i64 0, .int .i64 0] 50)) (some C)) := World.grownBy_alloc _ _ _
  clear hC e0 e1
  go_enter Tryz.func91, Tryz.ntmps91
  go_wp2_with fail
  refine (K0.out _ HC0.out).mono ?_
  rintro e w1 ⟨rfl, hC1, hg⟩
  have HC1 : Hid (RdrX w1 C t c0) := hC1
  have HZ1 : Hid (w1.heap[w.heap.size]? = some (.cells #[.int .i64 0, .int .i64 0] 50)) := row_gr13 hg HZ0.out (by omega)
  have HG1 : Hid (w.grownBy w1 (some C)) := grown_more HG0.out hg
  clear hC1 hg HC0 HZ0 HG0
  go_wp2_with fail
  refine (K1.out _ HC1.out).mono ?_
  rintro e w2 ⟨rfl, hC1, hg⟩
  have HC2 : Hid (RdrX w2 C t c1) := hC1
  have HZ2 : Hid (w2.heap[w.heap.size]? = some (.cells #[.int .i64 0, .int .i64 0] 50)) := row_gr13 hg HZ1.out (by omega)
  have HG2 : Hid (w.grownBy w2 (some C)) := grown_more HG1.out hg
  clear hC1 hg HC1 HZ1 HG1
  have kz := R.row2_cells HZ2.out
  go_wp2
  refine bodyPost_ret (v := .agg #[.int .i64 y0, .int .i64 y1]) (by simp [results, Tryz.results91, go_sem, kz]) rfl ⟨rfl, (set_far (set_far HC2.out (by omega)) (by omega)), (grown_put13 (grown_put13 HG2.out (Nat.le_refl _) _) (Nat.le_refl _) _)⟩

set_option maxRecDepth 100000 in
set_option maxHeartbeats 1000000 in
theorem window_no (C : Nat) (t : ByteArray) (a : Nat) (ht : t.size ≤ 1048576) (hR : rdP t a = none) (w : World) (hC : RdrX w C t a) :
    Calls Tryz.prog 91 #[.pointer (some ⟨C, 0, none⟩)] w fun e w' => e = .panicked [unr] ∧ w.grownBy w' (some C) := by
  have hCl : C < w.heap.size := row_lt hC
  have HC0 : Hid (RdrX (w.alloc (.cells #[.int .i64 0, .int .i64 0] 50)) C t a) := hC.on ((Below.refl _ _).alloc (Nat.le_refl _) _)
  have HG0 : Hid (w.grownBy (w.alloc (.cells #[.int .i64 0, .int .i64 0] 50)) (some C)) := World.grownBy_alloc _ _ _
  have HR : Hid (rdP t a = none) := hR
  clear hC hR
  rcases h0 : V.rv t (a : Int) with _ | ⟨y0, c0⟩
  · have K0 : Hid (∀ w, RdrX w C t a → Calls Tryz.prog 113 #[.pointer (some ⟨C, 0, none⟩)] w fun e w' => e = .panicked [unr] ∧ w.grownBy w' (some C)) := number_no C t a ht h0
    clear HR h0
    go_enter Tryz.func91, Tryz.ntmps91
    go_wp2_with fail
    refine (K0.out _ HC0.out).mono ?_
    rintro e w9 ⟨rfl, hg⟩
    have HG9 : Hid (w.grownBy w9 (some C)) := grown_more HG0.out hg
    clear hg HG0 HC0
    go_wp2
    exact ⟨rfl, rfl, HG9.out⟩
  · have K0 : Hid (∀ w, RdrX w C t a → Calls Tryz.prog 113 #[.pointer (some ⟨C, 0, none⟩)] w fun e w' => e = .returned (.int .i64 y0) ∧ RdrX w' C t c0 ∧ w.grownBy w' (some C)) := number_ok C t a y0 c0 ht h0
    rcases h1 : V.rv t (c0 : Int) with _ | ⟨y1, c1⟩
    · have K1 : Hid (∀ w, RdrX w C t c0 → Calls Tryz.prog 113 #[.pointer (some ⟨C, 0, none⟩)] w fun e w' => e = .panicked [unr] ∧ w.grownBy w' (some C)) := number_no C t c0 ht h1
      clear HR h0 h1
      go_enter Tryz.func91, Tryz.ntmps91
      go_wp2_with fail
      refine (K0.out _ HC0.out).mono ?_
      rintro e w1 ⟨rfl, hC1, hg⟩
      have HC1 : Hid (RdrX w1 C t c0) := hC1
      have HG1 : Hid (w.grownBy w1 (some C)) := grown_more HG0.out hg
      clear hC1 hg HC0 HG0
      go_wp2_with fail
      refine (K1.out _ HC1.out).mono ?_
      rintro e w9 ⟨rfl, hg⟩
      have HG9 : Hid (w.grownBy w9 (some C)) := grown_more HG1.out hg
      clear hg HG1 HC1
      go_wp2
      exact ⟨rfl, rfl, HG9.out⟩
    · have K1 : Hid (∀ w, RdrX w C t c0 → Calls Tryz.prog 113 #[.pointer (some ⟨C, 0, none⟩)] w fun e w' => e = .returned (.int .i64 y1) ∧ RdrX w' C t c1 ∧ w.grownBy w' (some C)) := number_ok C t c0 y1 c1 ht h1
      have hno := HR.out
      simp only [rdP, rdN, h0, h1, Option.bind_some] at hno
      cases hno

set_option maxRecDepth 100000 in
set_option maxHeartbeats 1000000 in
theorem port_ok (C : Nat) (t : ByteArray) (a : Nat) (x0 x1 x2 x3 x4 : Int) (c : Nat) (ht : t.size ≤ 1048576) (hR : rdO t a = some ((x0, x1, x2, x3, x4), c)) (w : World) (hC : RdrX w C t a) :
    Calls Tryz.prog 93 #[.pointer (some ⟨C, 0, none⟩)] w fun e w' => e = .returned (.agg #[.int .i64 x0, .int .i64 x1, .int .i64 x2, .int .i64 x3, .int .i64 x4]) ∧ RdrX w' C t c ∧ w.grownBy w' (some C) := by
  obtain ⟨⟨y0, c0⟩, e0, hR⟩ := bind_some hR
  obtain ⟨⟨y1, c1⟩, e1, hR⟩ := bind_some hR
  obtain ⟨⟨y2, c2⟩, e2, hR⟩ := bind_some hR
  obtain ⟨⟨y3, c3⟩, e3, hR⟩ := bind_some hR
  obtain ⟨⟨y4, c4⟩, e4, hR⟩ := bind_some hR
  cases hR
  have K0 : Hid (∀ w, RdrX w C t a → Calls Tryz.prog 113 #[.pointer (some ⟨C, 0, none⟩)] w fun e w' => e = .returned (.int .i64 y0) ∧ RdrX w' C t c0 ∧ w.grownBy w' (some C)) := number_ok C t a y0 c0 ht e0
  have K1 : Hid (∀ w, RdrX w C t c0 → Calls Tryz.prog 113 #[.pointer (some ⟨C, 0, none⟩)] w fun e w' => e = .returned (.int .i64 y1) ∧ RdrX w' C t c1 ∧ w.grownBy w' (some C)) := number_ok C t c0 y1 c1 ht e1
  have K2 : Hid (∀ w, RdrX w C t c1 → Calls Tryz.prog 113 #[.pointer (some ⟨C, 0, none⟩)] w fun e w' => e = .returned (.int .i64 y2) ∧ RdrX w' C t c2 ∧ w.grownBy w' (some C)) := number_ok C t c1 y2 c2 ht e2
  have K3 : Hid (∀ w, RdrX w C t c2 → Calls Tryz.prog 113 #[.pointer (some ⟨C, 0, none⟩)] w fun e w' => e = .returned (.int .i64 y3) ∧ RdrX w' C t c3 ∧ w.grownBy w' (some C)) := number_ok C t c2 y3 c3 ht e3
  have K4 : Hid (∀ w, RdrX w C t c3 → Calls Tryz.prog 113 #[.pointer (some ⟨C, 0, none⟩)] w fun e w' => e = .returned (.int .i64 y4) ∧ RdrX w' C t c4 ∧ w.grownBy w' (some C)) := number_ok C t c3 y4 c4 ht e4
  have hCl : C < w.heap.size := row_lt hC
  have HC0 : Hid (RdrX (w.alloc (.cells #[.int .i64 0, .int .i64 0, .int .i64 0, .int .i64 0, .int .i64 0] 52)) C t a) := hC.on ((Below.refl _ _).alloc (Nat.le_refl _) _)
  have HZ0 : Hid ((w.alloc (.cells #[.int .i64 0, .int .i64 0, .int .i64 0, .int .i64 0, .int .i64 0] 52)).heap[w.heap.size]? = some (.cells #[.int .i64 0, .int .i64 0, .int .i64 0, .int .i64 0, .int .i64 0] 52)) := heap_new w _
  have HG0 : Hid (w.grownBy (w.alloc (.cells #[.int .i64 0, .int .i64 0, .int .i64 0, .int .i64 0, .int .i64 0] 52)) (some C)) := World.grownBy_alloc _ _ _
  clear hC e0 e1 e2 e3 e4
  go_enter Tryz.func93, Tryz.ntmps93
  go_wp2_with fail
  refine (K0.out _ HC0.out).mono ?_
  rintro e w1 ⟨rfl, hC1, hg⟩
  have HC1 : Hid (RdrX w1 C t c0) := hC1
  have HZ1 : Hid (w1.heap[w.heap.size]? = some (.cells #[.int .i64 0, .int .i64 0, .int .i64 0, .int .i64 0, .int .i64 0] 52)) := row_gr13 hg HZ0.out (by omega)
  have HG1 : Hid (w.grownBy w1 (some C)) := grown_more HG0.out hg
  clear hC1 hg HC0 HZ0 HG0
  go_wp2_with fail
  refine (K1.out _ HC1.out).mono ?_
  rintro e w2 ⟨rfl, hC1, hg⟩
  have HC2 : Hid (RdrX w2 C t c1) := hC1
  have HZ2 : Hid (w2.heap[w.heap.size]? = some (.cells #[.int .i64 0, .int .i64 0, .int .i64 0, .int .i64 0, .int .i64 0] 52)) := row_gr13 hg HZ1.out (by omega)
  have HG2 : Hid (w.grownBy w2 (some C)) := grown_more HG1.out hg
  clear hC1 hg HC1 HZ1 HG1
  go_wp2_with fail
  refine (K2.out _ HC2.out).mono ?_
  rintro e w3 ⟨rfl, hC1, hg⟩
  have HC3 : Hid (RdrX w3 C t c2) := hC1
  have HZ3 : Hid (w3.heap[w.heap.size]? = some (.cells #[.int .i64 0, .int .i64 0, .int .i64 0, .int .i64 0, .int .i64 0] 52)) := row_gr13 hg HZ2.out (by omega)
  have HG3 : Hid (w.grownBy w3 (some C)) := grown_more HG2.out hg
  clear hC1 hg HC2 HZ2 HG2
  go_wp2_with fail
  refine (K3.out _ HC3.out).mono ?_
  rintro e w4 ⟨rfl, hC1, hg⟩
  have HC4 : Hid (RdrX w4 C t c3) := hC1
  have HZ4 : Hid (w4.heap[w.heap.size]? = some (.cells #[.int .i64 0, .int .i64 0, .int .i64 0, .int .i64 0, .int .i64 0] 52)) := row_gr13 hg HZ3.out (by omega)
  have HG4 : Hid (w.grownBy w4 (some C)) := grown_more HG3.out hg
  clear hC1 hg HC3 HZ3 HG3
  go_wp2_with fail
  refine (K4.out _ HC4.out).mono ?_
  rintro e w5 ⟨rfl, hC1, hg⟩
  have HC5 : Hid (RdrX w5 C t c4) := hC1
  have HZ5 : Hid (w5.heap[w.heap.size]? = some (.cells #[.int .i64 0, .int .i64 0, .int .i64 0, .int .i64 0, .int .i64 0] 52)) := row_gr13 hg HZ4.out (by omega)
  have HG5 : Hid (w.grownBy w5 (some C)) := grown_more HG4.out hg
  clear hC1 hg HC4 HZ4 HG4
  have kz := boxO_cells HZ5.out
  go_wp2
  refine bodyPost_ret (v := .agg #[.int .i64 y0, .int .i64 y1, .int .i64 y2, .int .i64 y3, .int .i64 y4]) (by simp [results, Tryz.results93, go_sem, kz]) rfl ⟨rfl, (set_far (set_far (set_far (set_far (set_far HC5.out (by omega)) (by omega)) (by omega)) (by omega)) (by omega)), (grown_put13 (grown_put13 (grown_put13 (grown_put13 (grown_put13 HG5.out (Nat.le_refl _) _) (Nat.le_refl _) _) (Nat.le_refl _) _) (Nat.le_refl _) _) (Nat.le_refl _) _)⟩

set_option maxRecDepth 100000 in
set_option maxHeartbeats 1000000 in
theorem port_no (C : Nat) (t : ByteArray) (a : Nat) (ht : t.size ≤ 1048576) (hR : rdO t a = none) (w : World) (hC : RdrX w C t a) :
    Calls Tryz.prog 93 #[.pointer (some ⟨C, 0, none⟩)] w fun e w' => e = .panicked [unr] ∧ w.grownBy w' (some C) := by
  have hCl : C < w.heap.size := row_lt hC
  have HC0 : Hid (RdrX (w.alloc (.cells #[.int .i64 0, .int .i64 0, .int .i64 0, .int .i64 0, .int .i64 0] 52)) C t a) := hC.on ((Below.refl _ _).alloc (Nat.le_refl _) _)
  have HG0 : Hid (w.grownBy (w.alloc (.cells #[.int .i64 0, .int .i64 0, .int .i64 0, .int .i64 0, .int .i64 0] 52)) (some C)) := World.grownBy_alloc _ _ _
  have HR : Hid (rdO t a = none) := hR
  clear hC hR
  rcases h0 : V.rv t (a : Int) with _ | ⟨y0, c0⟩
  · have K0 : Hid (∀ w, RdrX w C t a → Calls Tryz.prog 113 #[.pointer (some ⟨C, 0, none⟩)] w fun e w' => e = .panicked [unr] ∧ w.grownBy w' (some C)) := number_no C t a ht h0
    clear HR h0
    go_enter Tryz.func93, Tryz.ntmps93
    go_wp2_with fail
    refine (K0.out _ HC0.out).mono ?_
    rintro e w9 ⟨rfl, hg⟩
    have HG9 : Hid (w.grownBy w9 (some C)) := grown_more HG0.out hg
    clear hg HG0 HC0
    go_wp2
    exact ⟨rfl, rfl, HG9.out⟩
  · have K0 : Hid (∀ w, RdrX w C t a → Calls Tryz.prog 113 #[.pointer (some ⟨C, 0, none⟩)] w fun e w' => e = .returned (.int .i64 y0) ∧ RdrX w' C t c0 ∧ w.grownBy w' (some C)) := number_ok C t a y0 c0 ht h0
    rcases h1 : V.rv t (c0 : Int) with _ | ⟨y1, c1⟩
    · have K1 : Hid (∀ w, RdrX w C t c0 → Calls Tryz.prog 113 #[.pointer (some ⟨C, 0, none⟩)] w fun e w' => e = .panicked [unr] ∧ w.grownBy w' (some C)) := number_no C t c0 ht h1
      clear HR h0 h1
      go_enter Tryz.func93, Tryz.ntmps93
      go_wp2_with fail
      refine (K0.out _ HC0.out).mono ?_
      rintro e w1 ⟨rfl, hC1, hg⟩
      have HC1 : Hid (RdrX w1 C t c0) := hC1
      have HG1 : Hid (w.grownBy w1 (some C)) := grown_more HG0.out hg
      clear hC1 hg HC0 HG0
      go_wp2_with fail
      refine (K1.out _ HC1.out).mono ?_
      rintro e w9 ⟨rfl, hg⟩
      have HG9 : Hid (w.grownBy w9 (some C)) := grown_more HG1.out hg
      clear hg HG1 HC1
      go_wp2
      exact ⟨rfl, rfl, HG9.out⟩
    · have K1 : Hid (∀ w, RdrX w C t c0 → Calls Tryz.prog 113 #[.pointer (some ⟨C, 0, none⟩)] w fun e w' => e = .returned (.int .i64 y1) ∧ RdrX w' C t c1 ∧ w.grownBy w' (some C)) := number_ok C t c0 y1 c1 ht h1
      rcases h2 : V.rv t (c1 : Int) with _ | ⟨y2, c2⟩
      · have K2 : Hid (∀ w, RdrX w C t c1 → Calls Tryz.prog 113 #[.pointer (some ⟨C, 0, none⟩)] w fun e w' => e = .panicked [unr] ∧ w.grownBy w' (some C)) := number_no C t c1 ht h2
        clear HR h0 h1 h2
        go_enter Tryz.func93, Tryz.ntmps93
        go_wp2_with fail
        refine (K0.out _ HC0.out).mono ?_
        rintro e w1 ⟨rfl, hC1, hg⟩
        have HC1 : Hid (RdrX w1 C t c0) := hC1
        have HG1 : Hid (w.grownBy w1 (some C)) := grown_more HG0.out hg
        clear hC1 hg HC0 HG0
        go_wp2_with fail
        refine (K1.out _ HC1.out).mono ?_
        rintro e w2 ⟨rfl, hC1, hg⟩
        have HC2 : Hid (RdrX w2 C t c1) := hC1
        have HG2 : Hid (w.grownBy w2 (some C)) := grown_more HG1.out hg
        clear hC1 hg HC1 HG1
        go_wp2_with fail
        refine (K2.out _ HC2.out).mono ?_
        rintro e w9 ⟨rfl, hg⟩
        have HG9 : Hid (w.grownBy w9 (some C)) := grown_more HG2.out hg
        clear hg HG2 HC2
        go_wp2
        exact ⟨rfl, rfl, HG9.out⟩
      · have K2 : Hid (∀ w, RdrX w C t c1 → Calls Tryz.prog 113 #[.pointer (some ⟨C, 0, none⟩)] w fun e w' => e = .returned (.int .i64 y2) ∧ RdrX w' C t c2 ∧ w.grownBy w' (some C)) := number_ok C t c1 y2 c2 ht h2
        rcases h3 : V.rv t (c2 : Int) with _ | ⟨y3, c3⟩
        · have K3 : Hid (∀ w, RdrX w C t c2 → Calls Tryz.prog 113 #[.pointer (some ⟨C, 0, none⟩)] w fun e w' => e = .panicked [unr] ∧ w.grownBy w' (some C)) := number_no C t c2 ht h3
          clear HR h0 h1 h2 h3
          go_enter Tryz.func93, Tryz.ntmps93
          go_wp2_with fail
          refine (K0.out _ HC0.out).mono ?_
          rintro e w1 ⟨rfl, hC1, hg⟩
          have HC1 : Hid (RdrX w1 C t c0) := hC1
          have HG1 : Hid (w.grownBy w1 (some C)) := grown_more HG0.out hg
          clear hC1 hg HC0 HG0
          go_wp2_with fail
          refine (K1.out _ HC1.out).mono ?_
          rintro e w2 ⟨rfl, hC1, hg⟩
          have HC2 : Hid (RdrX w2 C t c1) := hC1
          have HG2 : Hid (w.grownBy w2 (some C)) := grown_more HG1.out hg
          clear hC1 hg HC1 HG1
          go_wp2_with fail
          refine (K2.out _ HC2.out).mono ?_
          rintro e w3 ⟨rfl, hC1, hg⟩
          have HC3 : Hid (RdrX w3 C t c2) := hC1
          have HG3 : Hid (w.grownBy w3 (some C)) := grown_more HG2.out hg
          clear hC1 hg HC2 HG2
          go_wp2_with fail
          refine (K3.out _ HC3.out).mono ?_
          rintro e w9 ⟨rfl, hg⟩
          have HG9 : Hid (w.grownBy w9 (some C)) := grown_more HG3.out hg
          clear hg HG3 HC3
          go_wp2
          exact ⟨rfl, rfl, HG9.out⟩
        · have K3 : Hid (∀ w, RdrX w C t c2 → Calls Tryz.prog 113 #[.pointer (some ⟨C, 0, none⟩)] w fun e w' => e = .returned (.int .i64 y3) ∧ RdrX w' C t c3 ∧ w.grownBy w' (some C)) := number_ok C t c2 y3 c3 ht h3
          rcases h4 : V.rv t (c3 : Int) with _ | ⟨y4, c4⟩
          · have K4 : Hid (∀ w, RdrX w C t c3 → Calls Tryz.prog 113 #[.pointer (some ⟨C, 0, none⟩)] w fun e w' => e = .panicked [unr] ∧ w.grownBy w' (some C)) := number_no C t c3 ht h4
            clear HR h0 h1 h2 h3 h4
            go_enter Tryz.func93, Tryz.ntmps93
            go_wp2_with fail
            refine (K0.out _ HC0.out).mono ?_
            rintro e w1 ⟨rfl, hC1, hg⟩
            have HC1 : Hid (RdrX w1 C t c0) := hC1
            have HG1 : Hid (w.grownBy w1 (some C)) := grown_more HG0.out hg
            clear hC1 hg HC0 HG0
            go_wp2_with fail
            refine (K1.out _ HC1.out).mono ?_
            rintro e w2 ⟨rfl, hC1, hg⟩
            have HC2 : Hid (RdrX w2 C t c1) := hC1
            have HG2 : Hid (w.grownBy w2 (some C)) := grown_more HG1.out hg
            clear hC1 hg HC1 HG1
            go_wp2_with fail
            refine (K2.out _ HC2.out).mono ?_
            rintro e w3 ⟨rfl, hC1, hg⟩
            have HC3 : Hid (RdrX w3 C t c2) := hC1
            have HG3 : Hid (w.grownBy w3 (some C)) := grown_more HG2.out hg
            clear hC1 hg HC2 HG2
            go_wp2_with fail
            refine (K3.out _ HC3.out).mono ?_
            rintro e w4 ⟨rfl, hC1, hg⟩
            have HC4 : Hid (RdrX w4 C t c3) := hC1
            have HG4 : Hid (w.grownBy w4 (some C)) := grown_more HG3.out hg
            clear hC1 hg HC3 HG3
            go_wp2_with fail
            refine (K4.out _ HC4.out).mono ?_
            rintro e w9 ⟨rfl, hg⟩
            have HG9 : Hid (w.grownBy w9 (some C)) := grown_more HG4.out hg
            clear hg HG4 HC4
            go_wp2
            exact ⟨rfl, rfl, HG9.out⟩
          · have K4 : Hid (∀ w, RdrX w C t c3 → Calls Tryz.prog 113 #[.pointer (some ⟨C, 0, none⟩)] w fun e w' => e = .returned (.int .i64 y4) ∧ RdrX w' C t c4 ∧ w.grownBy w' (some C)) := number_ok C t c3 y4 c4 ht h4
            have hno := HR.out
            simp only [rdO, rdN, h0, h1, h2, h3, h4, Option.bind_some] at hno
            cases hno

set_option maxRecDepth 100000 in
set_option maxHeartbeats 1000000 in
theorem rule_ok (C : Nat) (t : ByteArray) (a : Nat) (x0 x1 x2 : Int) (c : Nat) (ht : t.size ≤ 1048576) (hR : rdU t a = some ((x0, x1, x2), c)) (w : World) (hC : RdrX w C t a) :
    Calls Tryz.prog 95 #[.pointer (some ⟨C, 0, none⟩)] w fun e w' => e = .returned (.agg #[.int .i64 x0, .int .i64 x1, .int .i64 x2]) ∧ RdrX w' C t c ∧ w.grownBy w' (some C) := by
  obtain ⟨⟨y0, c0⟩, e0, hR⟩ := bind_some hR
  obtain ⟨⟨y1, c1⟩, e1, hR⟩ := bind_some hR
  obtain ⟨⟨y2, c2⟩, e2, hR⟩ := bind_some hR
  cases hR
  have K0 : Hid (∀ w, RdrX w C t a → Calls Tryz.prog 113 #[.pointer (some ⟨C, 0, none⟩)] w fun e w' => e = .returned (.int .i64 y0) ∧ RdrX w' C t c0 ∧ w.grownBy w' (some C)) := number_ok C t a y0 c0 ht e0
  have K1 : Hid (∀ w, RdrX w C t c0 → Calls Tryz.prog 113 #[.pointer (some ⟨C, 0, none⟩)] w fun e w' => e = .returned (.int .i64 y1) ∧ RdrX w' C t c1 ∧ w.grownBy w' (some C)) := number_ok C t c0 y1 c1 ht e1
  have K2 : Hid (∀ w, RdrX w C t c1 → Calls Tryz.prog 113 #[.pointer (some ⟨C, 0, none⟩)] w fun e w' => e = .returned (.int .i64 y2) ∧ RdrX w' C t c2 ∧ w.grownBy w' (some C)) := number_ok C t c1 y2 c2 ht e2
  have hCl : C < w.heap.size := row_lt hC
  have HC0 : Hid (RdrX (w.alloc (.cells #[.int .i64 0, .int .i64 0, .int .i64 0] 54)) C t a) := hC.on ((Below.refl _ _).alloc (Nat.le_refl _) _)
  have HZ0 : Hid ((w.alloc (.cells #[.int .i64 0, .int .i64 0, .int .i64 0] 54)).heap[w.heap.size]? = some (.cells #[.int .i64 0, .int .i64 0, .int .i64 0] 54)) := heap_new w _
  have HG0 : Hid (w.grownBy (w.alloc (.cells #[.int .i64 0, .int .i64 0, .int .i64 0] 54)) (some C)) := World.grownBy_alloc _ _ _
  clear hC e0 e1 e2
  go_enter Tryz.func95, Tryz.ntmps95
  go_wp2_with fail
  refine (K0.out _ HC0.out).mono ?_
  rintro e w1 ⟨rfl, hC1, hg⟩
  have HC1 : Hid (RdrX w1 C t c0) := hC1
  have HZ1 : Hid (w1.heap[w.heap.size]? = some (.cells #[.int .i64 0, .int .i64 0, .int .i64 0] 54)) := row_gr13 hg HZ0.out (by omega)
  have HG1 : Hid (w.grownBy w1 (some C)) := grown_more HG0.out hg
  clear hC1 hg HC0 HZ0 HG0
  go_wp2_with fail
  refine (K1.out _ HC1.out).mono ?_
  rintro e w2 ⟨rfl, hC1, hg⟩
  have HC2 : Hid (RdrX w2 C t c1) := hC1
  have HZ2 : Hid (w2.heap[w.heap.size]? = some (.cells #[.int .i64 0, .int .i64 0, .int .i64 0] 54)) := row_gr13 hg HZ1.out (by omega)
  have HG2 : Hid (w.grownBy w2 (some C)) := grown_more HG1.out hg
  clear hC1 hg HC1 HZ1 HG1
  go_wp2_with fail
  refine (K2.out _ HC2.out).mono ?_
  rintro e w3 ⟨rfl, hC1, hg⟩
  have HC3 : Hid (RdrX w3 C t c2) := hC1
  have HZ3 : Hid (w3.heap[w.heap.size]? = some (.cells #[.int .i64 0, .int .i64 0, .int .i64 0] 54)) := row_gr13 hg HZ2.out (by omega)
  have HG3 : Hid (w.grownBy w3 (some C)) := grown_more HG2.out hg
  clear hC1 hg HC2 HZ2 HG2
  have kz := row3_cells HZ3.out
  go_wp2
  refine bodyPost_ret (v := .agg #[.int .i64 y0, .int .i64 y1, .int .i64 y2]) (by simp [results, Tryz.results95, go_sem, kz]) rfl ⟨rfl, (set_far (set_far (set_far HC3.out (by omega)) (by omega)) (by omega)), (grown_put13 (grown_put13 (grown_put13 HG3.out (Nat.le_refl _) _) (Nat.le_refl _) _) (Nat.le_refl _) _)⟩

set_option maxRecDepth 100000 in
set_option maxHeartbeats 1000000 in
theorem rule_no (C : Nat) (t : ByteArray) (a : Nat) (ht : t.size ≤ 1048576) (hR : rdU t a = none) (w : World) (hC : RdrX w C t a) :
    Calls Tryz.prog 95 #[.pointer (some ⟨C, 0, none⟩)] w fun e w' => e = .panicked [unr] ∧ w.grownBy w' (some C) := by
  have hCl : C < w.heap.size := row_lt hC
  have HC0 : Hid (RdrX (w.alloc (.cells #[.int .i64 0, .int .i64 0, .int .i64 0] 54)) C t a) := hC.on ((Below.refl _ _).alloc (Nat.le_refl _) _)
  have HG0 : Hid (w.grownBy (w.alloc (.cells #[.int .i64 0, .int .i64 0, .int .i64 0] 54)) (some C)) := World.grownBy_alloc _ _ _
  have HR : Hid (rdU t a = none) := hR
  clear hC hR
  rcases h0 : V.rv t (a : Int) with _ | ⟨y0, c0⟩
  · have K0 : Hid (∀ w, RdrX w C t a → Calls Tryz.prog 113 #[.pointer (some ⟨C, 0, none⟩)] w fun e w' => e = .panicked [unr] ∧ w.grownBy w' (some C)) := number_no C t a ht h0
    clear HR h0
    go_enter Tryz.func95, Tryz.ntmps95
    go_wp2_with fail
    refine (K0.out _ HC0.out).mono ?_
    rintro e w9 ⟨rfl, hg⟩
    have HG9 : Hid (w.grownBy w9 (some C)) := grown_more HG0.out hg
    clear hg HG0 HC0
    go_wp2
    exact ⟨rfl, rfl, HG9.out⟩
  · have K0 : Hid (∀ w, RdrX w C t a → Calls Tryz.prog 113 #[.pointer (some ⟨C, 0, none⟩)] w fun e w' => e = .returned (.int .i64 y0) ∧ RdrX w' C t c0 ∧ w.grownBy w' (some C)) := number_ok C t a y0 c0 ht h0
    rcases h1 : V.rv t (c0 : Int) with _ | ⟨y1, c1⟩
    · have K1 : Hid (∀ w, RdrX w C t c0 → Calls Tryz.prog 113 #[.pointer (some ⟨C, 0, none⟩)] w fun e w' => e = .panicked [unr] ∧ w.grownBy w' (some C)) := number_no C t c0 ht h1
      clear HR h0 h1
      go_enter Tryz.func95, Tryz.ntmps95
      go_wp2_with fail
      refine (K0.out _ HC0.out).mono ?_
      rintro e w1 ⟨rfl, hC1, hg⟩
      have HC1 : Hid (RdrX w1 C t c0) := hC1
      have HG1 : Hid (w.grownBy w1 (some C)) := grown_more HG0.out hg
      clear hC1 hg HC0 HG0
      go_wp2_with fail
      refine (K1.out _ HC1.out).mono ?_
      rintro e w9 ⟨rfl, hg⟩
      have HG9 : Hid (w.grownBy w9 (some C)) := grown_more HG1.out hg
      clear hg HG1 HC1
      go_wp2
      exact ⟨rfl, rfl, HG9.out⟩
    · have K1 : Hid (∀ w, RdrX w C t c0 → Calls Tryz.prog 113 #[.pointer (some ⟨C, 0, none⟩)] w fun e w' => e = .returned (.int .i64 y1) ∧ RdrX w' C t c1 ∧ w.grownBy w' (some C)) := number_ok C t c0 y1 c1 ht h1
      rcases h2 : V.rv t (c1 : Int) with _ | ⟨y2, c2⟩
      · have K2 : Hid (∀ w, RdrX w C t c1 → Calls Tryz.prog 113 #[.pointer (some ⟨C, 0, none⟩)] w fun e w' => e = .panicked [unr] ∧ w.grownBy w' (some C)) := number_no C t c1 ht h2
        clear HR h0 h1 h2
        go_enter Tryz.func95, Tryz.ntmps95
        go_wp2_with fail
        refine (K0.out _ HC0.out).mono ?_
        rintro e w1 ⟨rfl, hC1, hg⟩
        have HC1 : Hid (RdrX w1 C t c0) := hC1
        have HG1 : Hid (w.grownBy w1 (some C)) := grown_more HG0.out hg
        clear hC1 hg HC0 HG0
        go_wp2_with fail
        refine (K1.out _ HC1.out).mono ?_
        rintro e w2 ⟨rfl, hC1, hg⟩
        have HC2 : Hid (RdrX w2 C t c1) := hC1
        have HG2 : Hid (w.grownBy w2 (some C)) := grown_more HG1.out hg
        clear hC1 hg HC1 HG1
        go_wp2_with fail
        refine (K2.out _ HC2.out).mono ?_
        rintro e w9 ⟨rfl, hg⟩
        have HG9 : Hid (w.grownBy w9 (some C)) := grown_more HG2.out hg
        clear hg HG2 HC2
        go_wp2
        exact ⟨rfl, rfl, HG9.out⟩
      · have K2 : Hid (∀ w, RdrX w C t c1 → Calls Tryz.prog 113 #[.pointer (some ⟨C, 0, none⟩)] w fun e w' => e = .returned (.int .i64 y2) ∧ RdrX w' C t c2 ∧ w.grownBy w' (some C)) := number_ok C t c1 y2 c2 ht h2
        have hno := HR.out
        simp only [rdU, rdN, h0, h1, h2, Option.bind_some] at hno
        cases hno

theorem short_yes11 {t : ByteArray} {a : Nat} {s : ByteArray} {c : Nat} (h : rdS t a = some (s, c)) : V.short t (V.rv t (a : Int)) = .tuple #[.string s, .int .i64 (c : Int), .bool true] := by
  obtain ⟨⟨m, d⟩, e0, h⟩ := bind_some h
  have hb := V.rv_some (show V.rv t (a : Int) = some (m, d) from e0)
  simp only at h
  split at h
  · rename_i hh
    cases h
    rw [show V.rv t (a : Int) = some (m, d) from e0]
    obtain ⟨n, rfl⟩ := Int.eq_ofNat_of_zero_le hb.1
    have := V.short_yes (s := t) (m := n) (c := d) (by omega) (by simpa using hh.2)
    simpa using this
  · simp at h
theorem short_no11 {t : ByteArray} {a : Nat} (h : rdS t a = none) : V.short t (V.rv t (a : Int)) = .tuple #[.string ⟨#[]⟩, .int .i64 0, .bool false] := by
  rcases e0 : V.rv t (a : Int) with _ | ⟨m, d⟩
  · rfl
  · have hb := V.rv_some e0
    simp only [rdS, rdN, e0, Option.bind_some] at h
    split at h
    · simp at h
    · rename_i hh
      obtain ⟨n, rfl⟩ := Int.eq_ofNat_of_zero_le hb.1
      exact V.short_no (s := t) (m := n) (c := d) (fun h' => hh ⟨by omega, by simpa using h'.2⟩)
set_option maxRecDepth 100000 in
set_option maxHeartbeats 1000000 in
theorem code_ok (C : Nat) (t : ByteArray) (a : Nat) (s : ByteArray) (c : Nat) (ht : t.size ≤ 1048576) (hR : rdS t a = some (s, c)) (w : World) (hC : RdrX w C t a) :
    Calls Tryz.prog 97 #[.pointer (some ⟨C, 0, none⟩)] w fun e w' => e = .returned (.string s) ∧ RdrX w' C t c ∧ w.grownBy w' (some C) := by
  have HC : Hid (RdrX w C t a) := hC
  have k0 := hC.cells
  have HS : Hid (w.cell? ⟨C, 0, none⟩ = some (.string t) ∧ w.cell? ⟨C, 1, none⟩ = some (.int .i64 (a : Int)) ∧ Below w.heap.size w w) := ⟨k0.1, k0.2.1, Below.refl _ _⟩
  have K1 : Hid (∀ w, Calls Tryz.prog 114 #[.string t, .int .i64 (a : Int)] w fun e w' => e = .returned (.tuple #[.string s, .int .i64 (c : Int), .bool true]) ∧ Below w.heap.size w w') := fun w => by
    have := V.rs16 t a ht w
    rw [short_yes11 hR] at this
    exact this
  clear hC k0 hR
  go_enter Tryz.func97, Tryz.ntmps97
  go_wp2
  go_region_held3 (fun w' => w'.cell? ⟨C, 0, none⟩ = some (.string t) ∧ w'.cell? ⟨C, 1, none⟩ = some (.int .i64 (a : Int)) ∧ Below w.heap.size w w') (first | (refine rd2 (by assumption) ?_; assumption) | (exact ⟨HS.out.1, HS.out.2.1, HS.out.2.2.drew⟩)) (first | (go_at_call 114; refine (K1.out _).mono ?_; rintro e w1 ⟨rfl, hb1⟩))
  rename_i HH
  have HW : Hid (Below w.heap.size w w1) := HH.2.2
  have HC1 : Hid (RdrX w1 C t a) := HC.out.on HW.out
  have k1 := HC1.out.cells
  clear HH hb1 HS
  go_wp2
  go_ret
  exact ⟨rfl, HC1.out.set c, grown_setc (grown_bel (World.grownBy.refl _ _) HW.out) _⟩
set_option maxRecDepth 100000 in
set_option maxHeartbeats 1000000 in
theorem code_no (C : Nat) (t : ByteArray) (a : Nat) (ht : t.size ≤ 1048576) (hR : rdS t a = none) (w : World) (hC : RdrX w C t a) :
    Calls Tryz.prog 97 #[.pointer (some ⟨C, 0, none⟩)] w fun e w' => e = .panicked [unr] ∧ w.grownBy w' (some C) := by
  have HC : Hid (RdrX w C t a) := hC
  have k0 := hC.cells
  have HS : Hid (w.cell? ⟨C, 0, none⟩ = some (.string t) ∧ w.cell? ⟨C, 1, none⟩ = some (.int .i64 (a : Int)) ∧ Below w.heap.size w w) := ⟨k0.1, k0.2.1, Below.refl _ _⟩
  have K1 : Hid (∀ w, Calls Tryz.prog 114 #[.string t, .int .i64 (a : Int)] w fun e w' => e = .returned (.tuple #[.string ⟨#[]⟩, .int .i64 0, .bool false]) ∧ Below w.heap.size w w') := fun w => by
    have := V.rs16 t a ht w
    rw [short_no11 hR] at this
    exact this
  clear hC k0 hR
  go_enter Tryz.func97, Tryz.ntmps97
  go_wp2
  go_region_held3 (fun w' => w'.cell? ⟨C, 0, none⟩ = some (.string t) ∧ w'.cell? ⟨C, 1, none⟩ = some (.int .i64 (a : Int)) ∧ Below w.heap.size w w') (first | (refine rd2 (by assumption) ?_; assumption) | (exact ⟨HS.out.1, HS.out.2.1, HS.out.2.2.drew⟩)) (first | (go_at_call 114; refine (K1.out _).mono ?_; rintro e w1 ⟨rfl, hb1⟩))
  rename_i HH
  have HW : Hid (Below w.heap.size w w1) := HH.2.2
  clear HH hb1 HS
  go_wp2
  exact ⟨rfl, rfl, grown_bel (World.grownBy.refl _ _) HW.out⟩
set_option maxRecDepth 100000 in
set_option maxHeartbeats 1000000 in
theorem end_ok (C : Nat) (t : ByteArray) (a : Nat) (ht : t.size ≤ 1048576) (ha : a = t.size) (w : World) (hC : RdrX w C t a) :
    Calls Tryz.prog 98 #[.pointer (some ⟨C, 0, none⟩)] w fun e w' => e = .returned (.tuple #[]) ∧ Below w.heap.size w w' := by
  have HC : Hid (RdrX w C t a) := hC
  have k0 := hC.cells
  have HS : Hid (w.cell? ⟨C, 0, none⟩ = some (.string t) ∧ w.cell? ⟨C, 1, none⟩ = some (.int .i64 (a : Int)) ∧ Below w.heap.size w w) := ⟨k0.1, k0.2.1, Below.refl _ _⟩
  subst ha
  have hne : ((t.size : Int) != (t.size : Int)) = false := by simp
  clear hC k0 HC
  go_enter Tryz.func98, Tryz.ntmps98
  go_wp2
  go_region_held3 (fun w' => w'.cell? ⟨C, 0, none⟩ = some (.string t) ∧ w'.cell? ⟨C, 1, none⟩ = some (.int .i64 (t.size : Int)) ∧ Below w.heap.size w w') (first | (refine rd2 (by assumption) ?_; assumption) | (exact ⟨HS.out.1, HS.out.2.1, HS.out.2.2.drew⟩)) (fail)
  rename_i HH
  go_wp2
  go_end0
  exact ⟨rfl, HH.2.2⟩
set_option maxRecDepth 100000 in
set_option maxHeartbeats 1000000 in
theorem end_no (C : Nat) (t : ByteArray) (a : Nat) (ht : t.size ≤ 1048576) (ha : a ≠ t.size) (w : World) (hC : RdrX w C t a) :
    Calls Tryz.prog 98 #[.pointer (some ⟨C, 0, none⟩)] w fun e w' => e = .panicked [unr] ∧ w.grownBy w' (some C) := by
  have HC : Hid (RdrX w C t a) := hC
  have k0 := hC.cells
  have HS : Hid (w.cell? ⟨C, 0, none⟩ = some (.string t) ∧ w.cell? ⟨C, 1, none⟩ = some (.int .i64 (a : Int)) ∧ Below w.heap.size w w) := ⟨k0.1, k0.2.1, Below.refl _ _⟩
  have hne : ((a : Int) != (t.size : Int)) = true := by simp; omega
  clear hC k0 HC
  go_enter Tryz.func98, Tryz.ntmps98
  go_wp2
  go_region_held3 (fun w' => w'.cell? ⟨C, 0, none⟩ = some (.string t) ∧ w'.cell? ⟨C, 1, none⟩ = some (.int .i64 (a : Int)) ∧ Below w.heap.size w w') (first | (refine rd2 (by assumption) ?_; assumption) | (exact ⟨HS.out.1, HS.out.2.1, HS.out.2.2.drew⟩)) (fail)
  rename_i HH
  have HB : Hid (Below w.heap.size w _) := HH.2.2
  clear HH HS
  go_wp2
  exact ⟨rfl, rfl, grown_bel (World.grownBy.refl _ _) HB.out⟩
end Go.Proofs.YtadbekhekggpkaaGreatDoor
