/-
  Rules: lists of them in memory, which are right; RulesOk of the specification.
-/
import Derived.Test.YtfdhcchakoldpaaDrawW9
namespace Go.Proofs.Ytfdhcchakoldpaa
open Go.RowKit Go.PlainAid
set_option linter.unusedVariables false

abbrev Rule := Int × Int × Int
def rulV : List Rule → List Value
  | [] => []
  | r :: t => .int .i64 r.1 :: .int .i64 r.2.1 :: .int .i64 r.2.2 :: rulV t
theorem rulV_len : ∀ l : List Rule, (rulV l).length = l.length * 3
  | [] => rfl
  | r :: t => by simp [rulV, rulV_len t]; omega
theorem rulV_append : ∀ x y : List Rule, rulV (x ++ y) = rulV x ++ rulV y
  | [], y => rfl
  | r :: t, y => by simp [rulV, rulV_append t y]
theorem rulV_at : ∀ (l : List Rule) (j : Nat) (h : j < l.length), (rulV l)[j * 3]? = some (.int .i64 l[j].1) ∧ (rulV l)[j * 3 + 1]? = some (.int .i64 l[j].2.1) ∧ (rulV l)[j * 3 + 2]? = some (.int .i64 l[j].2.2)
  | [], j, h => by simp at h
  | r :: t, 0, h => by simp [rulV]
  | r :: t, j + 1, h => by
    have := rulV_at t j (by simpa using h)
    rw [show (j + 1) * 3 = j * 3 + 1 + 1 + 1 by omega, show j * 3 + 1 + 1 + 1 + 1 = j * 3 + 1 + 1 + 1 + 1 from rfl, show j * 3 + 1 + 1 + 1 + 2 = j * 3 + 2 + 1 + 1 + 1 by omega]
    simpa [rulV] using this
theorem rulV_one : ∀ l : List Rule, ∀ v ∈ rulV l, v.oneCell' = true
  | [], v, h => by cases h
  | r :: t, v, h => by
    rcases List.mem_cons.1 h with rfl | h
    · rfl
    · rcases List.mem_cons.1 h with rfl | h
      · rfl
      · rcases List.mem_cons.1 h with rfl | h
        · rfl
        · exact rulV_one t v h
theorem infoU : (Try.prog.info? 182).map (fun i => (i.zero, i.size, i.bytes)) = some (some (.agg #[.int .i64 0, .int .i64 0, .int .i64 0]), 3, 24) := by kernel_rfl
theorem row3_cells {w : World} {k : Nat} {t : TypeId} {x y z : Value} (h : w.heap[k]? = some (.cells #[x, y, z] t)) :
    (w.cell? ⟨k, 0, none⟩ = some x ∧ w.cell? ⟨k, 1, none⟩ = some y ∧ w.cell? ⟨k, 2, none⟩ = some z) ∧ w.frozen? ⟨k, 0, none⟩ = false ∧ w.frozen? ⟨k, 1, none⟩ = false ∧ w.frozen? ⟨k, 2, none⟩ = false := by
  refine ⟨⟨?_, ?_, ?_⟩, ?_, ?_, ?_⟩ <;> simp [World.cell?, World.frozen?, h]
/-- a list of rules that is read, wherever it lies -/
def RdU (w : World) (a : Option Addr) (l : List Rule) : Prop := 0 < l.length → ∃ g off, a = some ⟨g, off, none⟩ ∧ ∀ j (h : j < l.length), w.cell? ⟨g, off + j * 3, none⟩ = some (.int .i64 l[j].1) ∧ w.cell? ⟨g, off + j * 3 + 1, none⟩ = some (.int .i64 l[j].2.1) ∧ w.cell? ⟨g, off + j * 3 + 2, none⟩ = some (.int .i64 l[j].2.2)
theorem RdU.keep {w w' : World} {a : Option Addr} {l : List Rule} {B : Nat} (h : RdU w a l) (hb : Below B w w') (hB : w.heap.size ≤ B) : RdU w' a l := fun h0 => by
  obtain ⟨g, off, ha, hc⟩ := h h0
  refine ⟨g, off, ha, fun j hj => ?_⟩
  obtain ⟨h1, h2, h3⟩ := hc j hj
  have hlt := Nat.lt_of_lt_of_le (World.block_lt_of_cell? w ⟨g, off + j * 3, none⟩ h1) hB
  exact ⟨(hb.cell (p := ⟨g, off + j * 3, none⟩) hlt).trans h1, (hb.cell (p := ⟨g, off + j * 3 + 1, none⟩) hlt).trans h2, (hb.cell (p := ⟨g, off + j * 3 + 2, none⟩) hlt).trans h3⟩
theorem RdU.on {w w' : World} {a : Option Addr} {l : List Rule} (h : RdU w a l) (hb : Below w.heap.size w w') : RdU w' a l := h.keep hb (Nat.le_refl _)
/-- an owned list of rules -/
def OwnU (w : World) (B : Nat) (v : Value) (n : Nat) (l : List Rule) : Prop := w.ownsRow B 182 3 v n (rulV l)
theorem OwnU.len {w : World} {B n : Nat} {v : Value} {l : List Rule} (h : OwnU w B v n l) : l.length = n := by
  have := h.1; rw [rulV_len] at this; omega
theorem OwnU.rd {w : World} {B n c : Nat} {a : Option Addr} {l : List Rule} (h : OwnU w B (.slice a n c) n l) : RdU w a l := fun h0 => by
  have hl := h.len
  rcases h.2 with ⟨hv, e⟩ | ⟨g, cap, cur, hv, _⟩
  · omega
  · cases hv
    refine ⟨g, 0, rfl, fun j hj => ?_⟩
    obtain ⟨h1, h2, h3⟩ := rulV_at l j hj
    refine ⟨?_, ?_, ?_⟩
    · rw [Nat.zero_add, h.cellAt (j * 3) (by omega)]; exact h1
    · rw [Nat.zero_add, h.cellAt (j * 3 + 1) (by omega)]; exact h2
    · rw [Nat.zero_add, h.cellAt (j * 3 + 2) (by omega)]; exact h3
theorem OwnU.news {w : World} {B n c g : Nat} {l : List Rule} (h : OwnU w B (.slice (some ⟨g, 0, none⟩) n c) n l) : ∀ j u, (rulV l)[j]? = some u → w.cell? ((⟨g, 0, none⟩ : Addr).add j) = some u := by
  intro j u hj
  have hl := h.len
  have hlt : j < (rulV l).length := by
    rcases Nat.lt_or_ge j (rulV l).length with h' | h'
    · exact h'
    · rw [List.getElem?_eq_none h'] at hj; cases hj
  rw [rulV_len] at hlt
  rw [add_at, Nat.zero_add, h.cellAt j (by omega)]
  exact hj
theorem ownU_empty (w : World) (B e : Nat) (he : e = w.heap.size) (hB : B ≤ w.heap.size) : OwnU (w.alloc (.cells #[] 182)) B (.slice (some ⟨e, 0, none⟩) 0 0) 0 [] := by
  subst he
  exact ⟨rfl, Or.inr ⟨_, 0, #[], rfl, hB, by show (w.heap.push _)[w.heap.size]? = _; simp, Nat.le_refl _, by decide, rfl, rfl⟩⟩

/-- a rule that is right -/
def ruleR (r : Rule) : Prop := (1 ≤ r.1 ∧ r.1 ≤ 4) ∧ (1 ≤ r.2.1 ∧ r.2.1 ≤ 2) ∧ (0 ≤ r.2.2 ∧ r.2.2 ≤ 4) ∧ ¬ (r.2.1 = 1 ∧ r.2.2 = 0)
/-- the first j rules are right, none is told twice -/
def UptoU (l : List Rule) (j : Nat) : Prop := ∀ i (h : i < l.length), i < j → ruleR l[i] ∧ ∀ k (hk : k < i), ¬ ((l[k]'(by omega)).1 = l[i].1 ∧ (l[k]'(by omega)).2.1 = l[i].2.1)
/-- right rules -/
def RulesR (l : List Rule) : Prop := UptoU l l.length ∧ l.length ≤ 8
theorem rules_bool (l : List Rule) : ∃ b : Bool, b = true ↔ RulesR l := by
  by_cases h : RulesR l
  · exact ⟨true, ⟨fun _ => h, fun _ => rfl⟩⟩
  · exact ⟨false, ⟨fun h => (by cases h), fun h' => absurd h' h⟩⟩
theorem uptoU_zero (l : List Rule) : UptoU l 0 := fun i _ h => by omega
theorem uptoU_succ {l : List Rule} {j : Nat} (h : UptoU l j) (hj : j < l.length) (hr : ruleR l[j]) (hd : ∀ k (hk : k < j), ¬ ((l[k]'(by omega)).1 = l[j].1 ∧ (l[k]'(by omega)).2.1 = l[j].2.1)) : UptoU l (j + 1) := fun i hi hlt => by
  rcases Nat.lt_or_ge i j with h' | h'
  · exact h i hi h'
  · obtain rfl : i = j := by omega
    exact ⟨hr, hd⟩
theorem rules_no {l : List Rule} {b : Bool} (hb : b = true ↔ RulesR l) (h : ¬ RulesR l) : b = false := by
  cases b
  · rfl
  · exact absurd (hb.1 rfl) h
theorem rules_not {l : List Rule} {b : Bool} (hb : b = true ↔ RulesR l) (j : Nat) (hj : j < l.length) (h : ¬ ruleR l[j]) : b = false := rules_no hb (fun hp => h (hp.1 j hj hj).1)
theorem rules_dup {l : List Rule} {b : Bool} (hb : b = true ↔ RulesR l) (j k : Nat) (hj : j < l.length) (hk : k < j) (h : (l[k]'(by omega)).1 = l[j].1 ∧ (l[k]'(by omega)).2.1 = l[j].2.1) : b = false := rules_no hb (fun hp => (hp.1 j hj hj).2 k hk h)

theorem bel_drewN {w W : World} {B : Nat} (h : Below B w W) (n : Nat) : Below B w (W.drewN n) := ⟨h.os, h.tape, h.output, h.size, h.block⟩

set_option maxRecDepth 100000 in
set_option maxHeartbeats 4000000 in
theorem rulesS (a : Option Addr) (l : List Rule) (n cap : Nat) (b : Bool) (hl : l.length = n) (hn : n ≤ 1048576) (hb : b = true ↔ RulesR l) (w : World) (hr : RdU w a l) :
    Calls Try.prog 144 #[.slice a n cap] w fun e w' => e = .returned (.bool b) ∧ Below w.heap.size w w' := by
  have HB : Hid (b = true ↔ RulesR l) := hb
  have HL : Hid (l.length = n) := hl
  clear hb hl
  by_cases hp : 0 < n
  · obtain ⟨g, off, rfl, hc⟩ := hr (by have := HL.out; omega)
    have HC : Hid (∀ j (h : j < l.length), w.cell? ⟨g, off + j * 3, none⟩ = some (.int .i64 l[j].1) ∧ w.cell? ⟨g, off + j * 3 + 1, none⟩ = some (.int .i64 l[j].2.1) ∧ w.cell? ⟨g, off + j * 3 + 2, none⟩ = some (.int .i64 l[j].2.2)) := hc
    have hgl : g < w.heap.size := World.block_lt_of_cell? w ⟨g, off + 0 * 3, none⟩ (hc 0 (by have := HL.out; omega)).1
    clear hr hc
    go_enter Try.func144, Try.ntmps144
    go_wp2
    go_loopg [3] n (fun gk i wr => ∃ j : Nat, j + gk = n ∧ i = .int .i64 j ∧ Hid (UptoU l j) ∧ Hid (Below w.heap.size w wr))
    case atStart => exact ⟨0, by omega, rfl, uptoU_zero l, Below.refl _ _⟩
    case round =>
      obtain ⟨j, hj, rfl, HI, HW⟩ := hrel
      by_cases hlt : j < n
      · have hjl : j < l.length := by have := HL.out; omega
        have c0 := HC.out j hjl
        have c1 := (HW.out.cell (p := ⟨g, off + j * 3, none⟩) hgl).trans c0.1
        have c2 := (HW.out.cell (p := ⟨g, off + j * 3 + 1, none⟩) hgl).trans c0.2.1
        have c3 := (HW.out.cell (p := ⟨g, off + j * 3 + 2, none⟩) hgl).trans c0.2.2
        clear c0
        obtain ⟨f, hf⟩ : ∃ f, l[j].1 = f := ⟨_, rfl⟩
        obtain ⟨t, ht⟩ : ∃ t, l[j].2.1 = t := ⟨_, rfl⟩
        obtain ⟨c, hcc⟩ : ∃ c, l[j].2.2 = c := ⟨_, rfl⟩
        rw [hf] at c1
        rw [ht] at c2
        rw [hcc] at c3
        have HF : Hid (l[j].1 = f ∧ l[j].2.1 = t ∧ l[j].2.2 = c) := ⟨hf, ht, hcc⟩
        clear hf ht hcc
        have HWX : Hid (Below w.heap.size w (wr.alloc (.cells #[.int .i64 f, .int .i64 t, .int .i64 c] 182))) := HW.out.alloc HW.out.size _
        have HKX : Hid ((wr.alloc (.cells #[.int .i64 f, .int .i64 t, .int .i64 c] 182)).heap[wr.heap.size]? = some (.cells #[.int .i64 f, .int .i64 t, .int .i64 c] 182)) := heap_new wr _
        clear HW
        by_cases hf : 1 ≤ f ∧ f ≤ 4
        · by_cases ht : 1 ≤ t ∧ t ≤ 2
          · by_cases hcc : 0 ≤ c ∧ c ≤ 4
            · by_cases hx : t = 1 ∧ c = 0
              · have HE : Hid (b = false) := rules_not HB.out j hjl (fun h => h.2.2.2 ⟨HF.out.2.1.trans hx.1, HF.out.2.2.trans hx.2⟩)
                obtain ⟨rfl, rfl⟩ := hx
                go_wp2_with fail
                refine (inS 1 4 f true (decide_eq_true hf) _).mono ?_
                rintro e w1 ⟨rfl, rfl⟩
                go_wp2_with fail
                refine (inS 1 2 1 true rfl _).mono ?_
                rintro e w1 ⟨rfl, rfl⟩
                go_wp2_with fail
                refine (inS 0 4 0 true rfl _).mono ?_
                rintro e w1 ⟨rfl, rfl⟩
                go_wp2
                go_ret
                exact ⟨by rw [HE.out]; rfl, HWX.out⟩
              · have HR : Hid (ruleR l[j]) := by
                  obtain ⟨e1, e2, e3⟩ := HF.out
                  unfold ruleR
                  rw [e1, e2, e3]
                  exact ⟨hf, ht, hcc, hx⟩
                have h3 : (t == 1) = false ∨ ((t == 1) = true ∧ (c == 0) = false) := by
                  by_cases h1 : t = 1
                  · exact .inr ⟨by simpa using h1, by simpa using fun h' => hx ⟨h1, h'⟩⟩
                  · exact .inl (by simpa using h1)
                clear hx
                have hd1 := decide_eq_true hf
                have hd2 := decide_eq_true ht
                have hd3 := decide_eq_true hcc
                clear hf ht hcc
                obtain ⟨gi, rfl⟩ : ∃ gi, gk = gi + 1 := ⟨gk - 1, by omega⟩
                rcases h3 with hbt | ⟨hbt, hc0⟩
                all_goals
                  go_wp2_with fail
                  refine (inS 1 4 f true hd1 _).mono ?_
                  rintro e w1 ⟨rfl, rfl⟩
                  go_wp2_with fail
                  refine (inS 1 2 t true hd2 _).mono ?_
                  rintro e w1 ⟨rfl, rfl⟩
                  go_wp2_with fail
                  refine (inS 0 4 c true hd3 _).mono ?_
                  rintro e w1 ⟨rfl, rfl⟩
                  go_wp2
                  clear hd1 hd2 hd3
                  go_loopg [5] j (fun gk kv wr2 => ∃ m : Nat, m + gk = j ∧ kv = .int .i64 m ∧ Hid (∀ k (hk : k < j), k < m → ¬ ((l[k]'(by omega)).1 = l[j].1 ∧ (l[k]'(by omega)).2.1 = l[j].2.1)) ∧ Hid (Below w.heap.size w wr2) ∧ Hid (wr2.heap[wr.heap.size]? = some (.cells #[.int .i64 f, .int .i64 t, .int .i64 c] 182)))
                  case atStart => exact ⟨0, by omega, rfl, fun k _ h => by omega, HWX, HKX⟩
                  case round =>
                    clear HWX HKX
                    obtain ⟨m, hm, rfl, HM, HWX, HKX⟩ := hrel
                    by_cases hlm : m < j
                    · have hml : m < l.length := by omega
                      have d0 := HC.out m hml
                      have d1 := (HWX.out.cell (p := ⟨g, off + m * 3, none⟩) hgl).trans d0.1
                      have d2 := (HWX.out.cell (p := ⟨g, off + m * 3 + 1, none⟩) hgl).trans d0.2.1
                      have kx := row3_cells HKX.out
                      obtain ⟨pf, hpf⟩ : ∃ pf, l[m].1 = pf := ⟨_, rfl⟩
                      obtain ⟨pt, hpt⟩ : ∃ pt, l[m].2.1 = pt := ⟨_, rfl⟩
                      rw [hpf] at d1
                      rw [hpt] at d2
                      clear d0
                      have i0 : (0 : Int) ≤ (m : Int) := by omega
                      have i1 : (m : Int) < (n : Int) := by omega
                      by_cases hpe : pf = f
                      · by_cases hte : pt = t
                        · have HE : Hid (b = false) := rules_dup HB.out j m hjl hlm ⟨by rw [hpf, hpe, HF.out.1], by rw [hpt, hte, HF.out.2.1]⟩
                          have q1 : (pf == f) = true := by simpa using hpe
                          have q2 : (pt == t) = true := by simpa using hte
                          clear hpf hpt hpe hte HM
                          go_wp2
                          go_quiet (fail)
                          go_wp2
                          go_ret
                          exact ⟨by rw [HE.out]; rfl, bel_drewN HWX.out _⟩
                        · have HM' : Hid (∀ k (hk : k < j), k < m + 1 → ¬ ((l[k]'(by omega)).1 = l[j].1 ∧ (l[k]'(by omega)).2.1 = l[j].2.1)) := fun k hk hkm => by
                            rcases Nat.lt_or_ge k m with h' | h'
                            · exact HM.out k hk h'
                            · obtain rfl : k = m := by omega
                              rw [hpt, HF.out.2.1]
                              exact fun h => hte h.2
                          have q1 : (pf == f) = true := by simpa using hpe
                          have q2 : (pt == t) = false := by simpa using hte
                          clear hpf hpt hpe hte HM
                          go_wp2
                          go_quiet (fail)
                          go_wp2
                          go_roundg (gk - 1)
                          case measure => omega
                          case rel => exact ⟨m + 1, by omega, by go_num, HM', bel_drewN HWX.out _, HKX⟩
                      · have HM' : Hid (∀ k (hk : k < j), k < m + 1 → ¬ ((l[k]'(by omega)).1 = l[j].1 ∧ (l[k]'(by omega)).2.1 = l[j].2.1)) := fun k hk hkm => by
                          rcases Nat.lt_or_ge k m with h' | h'
                          · exact HM.out k hk h'
                          · obtain rfl : k = m := by omega
                            rw [hpf, HF.out.1]
                            exact fun h => hpe h.1
                        have q1 : (pf == f) = false := by simpa using hpe
                        clear hpf hpt hpe HM
                        go_wp2
                        go_quiet (fail)
                        go_wp2
                        go_roundg (gk - 1)
                        case measure => omega
                        case rel => exact ⟨m + 1, by omega, by go_num, HM', bel_drewN HWX.out _, HKX⟩
                    · have HU : Hid (UptoU l (j + 1)) := uptoU_succ HI.out hjl HR.out (fun k hk => HM.out k hk (by omega))
                      clear HM HI HR
                      go_wp2
                      go_roundg gi
                      case measure => omega
                      case rel => exact ⟨j + 1, by omega, by go_num, HU, HWX⟩
            · have HE : Hid (b = false) := rules_not HB.out j hjl (fun h => hcc (HF.out.2.2 ▸ h.2.2.1))
              go_wp2_with fail
              refine (inS 1 4 f true (decide_eq_true hf) _).mono ?_
              rintro e w1 ⟨rfl, rfl⟩
              go_wp2_with fail
              refine (inS 1 2 t true (decide_eq_true ht) _).mono ?_
              rintro e w1 ⟨rfl, rfl⟩
              go_wp2_with fail
              refine (inS 0 4 c false (decide_eq_false hcc) _).mono ?_
              rintro e w1 ⟨rfl, rfl⟩
              go_wp2
              go_ret
              exact ⟨by rw [HE.out]; rfl, HWX.out⟩
          · have HE : Hid (b = false) := rules_not HB.out j hjl (fun h => ht (HF.out.2.1 ▸ h.2.1))
            go_wp2_with fail
            refine (inS 1 4 f true (decide_eq_true hf) _).mono ?_
            rintro e w1 ⟨rfl, rfl⟩
            go_wp2_with fail
            refine (inS 1 2 t false (decide_eq_false ht) _).mono ?_
            rintro e w1 ⟨rfl, rfl⟩
            go_wp2
            go_ret
            exact ⟨by rw [HE.out]; rfl, HWX.out⟩
        · have HE : Hid (b = false) := rules_not HB.out j hjl (fun h => hf (HF.out.1 ▸ h.1))
          go_wp2_with fail
          refine (inS 1 4 f false (decide_eq_false hf) _).mono ?_
          rintro e w1 ⟨rfl, rfl⟩
          go_wp2
          go_ret
          exact ⟨by rw [HE.out]; rfl, HWX.out⟩
      · obtain rfl : j = n := by omega
        by_cases h8 : j ≤ 8
        · have HE : Hid (b = true) := HB.out.2 ⟨by rw [HL.out]; exact HI.out, by rw [HL.out]; exact h8⟩
          have h8' : (j : Int) ≤ 8 := by omega
          go_wp2
          go_ret
          exact ⟨by rw [HE.out]; simp, HW.out⟩
        · have HE : Hid (b = false) := rules_no HB.out (fun h => h8 (by have := h.2; rw [HL.out] at this; exact this))
          have h8' : ¬ (j : Int) ≤ 8 := by omega
          go_wp2
          go_ret
          exact ⟨by rw [HE.out]; simp, HW.out⟩
  · obtain rfl : n = 0 := by omega
    have HE : Hid (b = true) := HB.out.2 ⟨fun i h => by have := HL.out; omega, by have := HL.out; omega⟩
    clear hr
    go_enter Try.func144, Try.ntmps144
    go_wp2
    go_rounds 1
    go_ret
    exact ⟨by rw [HE.out]; rfl, Below.refl _ _⟩
end Go.Proofs.Ytfdhcchakoldpaa
