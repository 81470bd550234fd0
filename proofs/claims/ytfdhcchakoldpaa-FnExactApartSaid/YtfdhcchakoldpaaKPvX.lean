/-
  PartView, whether there is such a part or not; its answers marked and asked.
-/
import Derived.Test.YtfdhcchakoldpaaKPvS
namespace Go.Proofs.Ytfdhcchakoldpaa
open Go.ChangeShapes Go.WideShapes Go.ChangeAt Go.RowKit Go.PlainAid
set_option linter.unusedVariables false

/-- what PartView tells of a kernel -/
def ViewIs (K : KX) (p : Int) (Q : PX) (cl ol : List Int) : Prop :=
  (¬ HasP K.P.length K.X.R.length K.O.length p ∧ Q = ⟨0, 0, [], 0, 0, 0⟩ ∧ cl = [] ∧ ol = []) ∨
  ∃ (j : Nat) (_ : j < K.P.length) (_ : j < K.X.R.length) (_ : 2 * (j + 1) ≤ K.O.length), p = (j : Int) + 1 ∧ HasP K.P.length K.X.R.length K.O.length p ∧ Q = K.P[j] ∧ cl = C.ceL K.A K.X.R[j].1 K.X.R[j].2 ∧ ol = [K.O[2 * j]'(by omega), K.O[2 * j + 1]'(by omega)]
theorem view_ex (K : KX) (p : Int) : ∃ Q cl ol, ViewIs K p Q cl ol := by
  by_cases h : HasP K.P.length K.X.R.length K.O.length p
  · obtain ⟨h1, h2, h3, h4⟩ := h
    obtain ⟨j, hj⟩ : ∃ j : Nat, p = (j : Int) + 1 := ⟨(p - 1).toNat, by omega⟩
    exact ⟨_, _, _, .inr ⟨j, by omega, by omega, by omega, hj, ⟨h1, h2, h3, h4⟩, rfl, rfl, rfl⟩⟩
  · exact ⟨_, _, _, .inl ⟨h, rfl, rfl, rfl⟩⟩
theorem view_sm {K : KX} {k : KH} {p : Int} {Q : PX} {cl ol : List Int} (h : ViewIs K p Q cl ol) (hs : SmK k K) : Q.sk.length ≤ 1048576 ∧ cl.length ≤ 1048576 ∧ ol.length ≤ 1048576 := by
  rcases h with ⟨_, h1, h2, h3⟩ | ⟨j, hP, hR, hO, _, _, h1, h2, h3⟩
  · subst h1 h2 h3; exact ⟨by decide, by decide, by decide⟩
  · subst h1 h2 h3
    refine ⟨hs.ps j hP, ?_, by simp⟩
    rw [C.ceL_len]
    exact Nat.le_trans (C.cutN_le _ _ _) hs.a
theorem viewSX (k : KH) (K : KX) (p : Int) (Q : PX) (cl ol : List Int) (hv : ViewIs K p Q cl ol) (hp : -9223372036854775808 ≤ p ∧ p ≤ 9223372036854775807) (lo : Nat) (w : World) (h : OwnK w lo k K) (hs : SmK k K) :
    Calls Try.prog 37 #[KerV k K, .int .i64 p] w fun e w' => ∃ q1 c1 q2 c2 q3 c3, e = .returned (.tuple #[.agg #[.int .i64 Q.st, .int .i64 Q.pc, .slice q1 Q.sk.length c1, .int .i64 Q.ss, .int .i64 Q.en, .int .i64 Q.la], .slice q2 cl.length c2, .slice q3 ol.length c3]) ∧ Rd w' q1 Q.sk ∧ Rd w' q2 cl ∧ Rd w' q3 ol ∧ Below w.heap.size w w' := by
  have hl : K.X.R.length = k.s.n0 := h.x.rd.l0
  rcases hv with ⟨h0, h1, h2, h3⟩ | ⟨j, hP, hR, hO, e0, h0, h1, h2, h3⟩
  · subst h1 h2 h3
    rw [hl] at h0
    refine (viewS_no k K p hp h0 w hs).mono ?_
    rintro e w' ⟨q1, c1, q2, c2, rfl, hb⟩
    exact ⟨none, 0, q1, c1, q2, c2, rfl, fun h => by simp at h, fun h => by simp at h, fun h => by simp at h, hb⟩
  · subst h1 h2 h3 e0
    refine (viewS k K j lo hP hR hO w h hs).mono ?_
    rintro e w' ⟨q1, c1, q2, c2, q3, c3, rfl, r1, r2, r3, hb⟩
    refine ⟨q1, c1, q2, c2, q3, c3, ?_, r1, r2, r3, hb⟩
    rw [C.ceL_len]
    rfl
/-- a list that a call owns, or none -/
def OwV (w : World) (lo : Nat) (q : Option Addr) (l : List Int) : Prop := (q = none ∧ l = []) ∨ ∃ g, q = some ⟨g, 0, none⟩ ∧ lo ≤ g ∧ RowAt w g l
def DisV (q r : Option Addr) : Prop := ∀ a b, q = some a → r = some b → a.block ≠ b.block
theorem OwV.rd {w : World} {lo : Nat} {q : Option Addr} {l : List Int} (h : OwV w lo q l) : Rd w q l := by
  rcases h with ⟨_, rfl⟩ | ⟨g, rfl, _, hr⟩
  · exact fun h => by simp at h
  · exact hr.rd
theorem OwV.keep {w w' : World} {lo : Nat} {q : Option Addr} {l : List Int} (h : OwV w lo q l) (hk : ∀ a, q = some a → a.block < w.heap.size → w'.heap[a.block]? = w.heap[a.block]?) : OwV w' lo q l := by
  rcases h with h | ⟨g, rfl, h1, hr⟩
  · exact .inl h
  · exact .inr ⟨g, rfl, h1, (hk _ rfl hr.lt).trans hr⟩
theorem OwV.on {w w' : World} {lo : Nat} {q : Option Addr} {l : List Int} (h : OwV w lo q l) (hb : Below w.heap.size w w') : OwV w' lo q l := h.keep (fun a _ ha => hb.block _ ha)
theorem OwV.ge {w : World} {lo : Nat} {q : Option Addr} {l : List Int} (h : OwV w lo q l) : ∀ a, q = some a → lo ≤ a.block := by
  rcases h with ⟨h, _⟩ | ⟨g, rfl, h1, hr⟩
  · intro a ha; rw [h] at ha; cases ha
  · intro a ha; cases ha; exact h1
theorem viewIX (k : KH) (K : KX) (p : Int) (Q : PX) (cl ol : List Int) (hv : ViewIs K p Q cl ol) (w : World) (h : RdK w k K) (hs : SmK k K) :
    Calls Try.prog 91 #[KerV k K, .int .i64 p] w fun e w' => ∃ q1 q2 q3, e = .returned (.tuple #[.agg #[.int .i64 Q.st, .int .i64 Q.pc, .slice q1 Q.sk.length Q.sk.length, .int .i64 Q.ss, .int .i64 Q.en, .int .i64 Q.la], .slice q2 cl.length cl.length, .slice q3 ol.length ol.length]) ∧ (OwV w' w.heap.size q1 Q.sk ∧ OwV w' w.heap.size q2 cl ∧ OwV w' w.heap.size q3 ol ∧ DisV q1 q2 ∧ DisV q1 q3 ∧ DisV q2 q3) ∧ Below w.heap.size w w' := by
  have hl : K.X.R.length = k.s.n0 := h.x.l0
  rcases hv with ⟨h0, h1, h2, h3⟩ | ⟨j, hP, hR, hO, e0, h0, h1, h2, h3⟩
  · subst h1 h2 h3
    rw [hl] at h0
    refine (viewI_no k K p h0 w hs).mono ?_
    rintro e w' ⟨rfl, hb⟩
    exact ⟨none, none, none, rfl, ⟨.inl ⟨rfl, rfl⟩, .inl ⟨rfl, rfl⟩, .inl ⟨rfl, rfl⟩, (fun a b h => by cases h), (fun a b h => by cases h), (fun a b h => by cases h)⟩, hb⟩
  · subst h1 h2 h3 e0
    have h0' := h0
    rw [hl] at h0'
    refine (viewI k K j h0' hP hR hO w h hs).mono ?_
    rintro e w' ⟨g, gc, go, rfl, hr, hb⟩
    refine ⟨some ⟨g, 0, none⟩, some ⟨gc, 0, none⟩, some ⟨go, 0, none⟩, ?_, ⟨.inr ⟨g, rfl, hr.b0, hr.r⟩, .inr ⟨gc, rfl, hr.b1, hr.rc⟩, .inr ⟨go, rfl, hr.b2, hr.ro⟩, (fun a b h h' => by cases h; cases h'; exact hr.d1), (fun a b h h' => by cases h; cases h'; exact hr.d2), (fun a b h h' => by cases h; cases h'; exact hr.d3)⟩, hb⟩
    rw [C.ceL_len]
    rfl
/-- only the block of q is changed -/
structure Chg (q : Option Addr) (w w' : World) : Prop where
  os : w'.os = w.os
  tape : w'.tape = w.tape
  output : w'.output = w.output
  size : w.heap.size ≤ w'.heap.size
  far : ∀ b, b < w.heap.size → (∀ a, q = some a → a.block ≠ b) → w'.heap[b]? = w.heap[b]?
theorem Chg.of_below {q : Option Addr} {w w' : World} (h : Below w.heap.size w w') : Chg q w w' := ⟨h.os, h.tape, h.output, h.size, fun b hb _ => h.block b hb⟩
theorem Chg.trans {q : Option Addr} {a b c : World} (h : Chg q a b) (k : Chg q b c) : Chg q a c := ⟨k.os.trans h.os, k.tape.trans h.tape, k.output.trans h.output, Nat.le_trans h.size k.size, fun g hg hn => (k.far g (Nat.lt_of_lt_of_le hg h.size) hn).trans (h.far g hg hn)⟩
end Go.Proofs.Ytfdhcchakoldpaa
