/-
  Plain helpers over this translation: bytes that are owned, texts read byte by byte.
-/
import Derived.Test.YtfhhnelffldggaaGreatDoorChecked
import Derived.Test.YtfhhnelffldggaaGreatDoorUqAA
import Derived.WalkKit
import Derived.ProofKit
import Derived.Handy
import Derived.LoopTactic
import Derived.Below
import Derived.Laws.IdiomStrings
import Derived.PlainAid
import Derived.Deep.RegionWith
import Derived.Deep.RegionHeld3
import Derived.Laws.DeepStrings4
import Derived.Deep.QuietTactic
import Derived.BigQuiet
import Derived.WalkSmall
import Derived.Deep.AppendLies
import Derived.Deep.RegionLaw
import Derived.Laws.BytesArg
import Derived.Deep.LoopGhost
import Derived.WalkMore
import Derived.Laws.BitsAllLaws
set_option maxRecDepth 100000
set_option maxHeartbeats 16000000
namespace Go.Proofs.YtfhhnelffldggaaGreatDoor.Q
open Go.RowKit Go.PlainAid
set_option linter.unusedVariables false
def bytesV (l : List UInt8) : List Value := l.map (fun b => Value.int .u8 (b.toNat : Int))
theorem info5 : (Tryz.prog.info? 5).map (fun i => (i.zero, i.size, i.bytes)) = some (some (.int .u8 0), 1, 1) := by kernel_rfl
theorem own_empty (w : World) : (w.alloc (.cells #[] 5)).ownsRow w.heap.size 5 1 (.slice (some ⟨w.heap.size, 0, none⟩) 0 0) 0 (bytesV []) :=
  ⟨rfl, Or.inr ⟨_, 0, #[], rfl, Nat.le_refl _, by show (w.heap.push _)[w.heap.size]? = _; simp, Nat.le_refl _, by decide, rfl, rfl⟩⟩
theorem one_cell (wr : World) (x : Value) (a : Addr) (ha : a = ⟨wr.heap.size, 0, none⟩) : ∀ j u, [x][j]? = some u → (wr.alloc (.cells #[x] 5)).cell? (a.add j) = some u := by
  intro j u hj
  subst ha
  match j, hj with
  | 0, hj => simp at hj; subst hj; simp [Addr.add]
theorem own_string {wr : World} {B : Nat} {v : Value} {xs : List UInt8} (h : wr.ownsRow B 5 1 v xs.length (bytesV xs)) (h0 : 0 < xs.length) :
    ∃ g cap, v = .slice (some ⟨g, 0, none⟩) xs.length cap ∧ (convert 22 9 v).run Tryz.prog wr = .ok (.string ⟨xs.toArray⟩) wr := by
  have h' := h
  rcases h.2 with ⟨rfl, e⟩ | ⟨g, cap, cur, rfl, hg, hh, hnc, hcp, hcs, htake⟩
  · omega
  · refine ⟨g, cap, rfl, run_convert_bytes_back (P := Tryz.prog) wr 22 9 5 ⟨g, 0, none⟩ cap xs Tryz.underlying22 Tryz.underlying5 Tryz.underlying9 fun j hj => ?_⟩
    rw [Addr.add_lit, Nat.zero_add, h'.cellAt j (by omega)]
    simp [bytesV, hj]
theorem own_ge {wr : World} {B n : Nat} {v : Value} {xs : List Value} (h : wr.ownsRow B 5 1 v n xs) : ∀ k, v.ownBlock = some k → B ≤ k := by
  intro k hk
  rcases h.2 with ⟨rfl, e⟩ | ⟨g, cap, cur, rfl, hg, _⟩
  · simp [Value.ownBlock] at hk
  · simp [Value.ownBlock] at hk; omega
theorem own_text {wr : World} {B : Nat} {v : Value} {xs : List UInt8} (h : wr.ownsRow B 5 1 v xs.length (bytesV xs)) :
    ∃ a cap, v = .slice a xs.length cap ∧ (convert 22 9 v).run Tryz.prog wr = .ok (.string ⟨xs.toArray⟩) wr := by
  by_cases h0 : 0 < xs.length
  · obtain ⟨g, cap, hv, hr⟩ := own_string h h0
    exact ⟨_, cap, hv, hr⟩
  · obtain rfl : xs = [] := List.length_eq_zero_iff.1 (by omega)
    rcases h.2 with ⟨rfl, e⟩ | ⟨g, cap, cur, rfl, hg, hh, hnc, hcp, hcs, htake⟩
    · exact ⟨none, 0, rfl, run_convert_bytes_nil (P := Tryz.prog) (w := wr) 22 5 Tryz.underlying22 Tryz.underlying5 0 0 9 Tryz.underlying9⟩
    · exact ⟨_, cap, rfl, run_convert_bytes_back (P := Tryz.prog) wr 22 9 5 ⟨g, 0, none⟩ cap [] Tryz.underlying22 Tryz.underlying5 Tryz.underlying9 fun j hj => by simp at hj⟩
theorem take_all (s : ByteArray) (k : Nat) (h : ¬ k < s.size) : s.data.toList.take k = s.data.toList :=
  List.take_of_length_le (by rw [Array.length_toList]; show s.size ≤ k; omega)
theorem ix_run (s : ByteArray) (k : Nat) (h : k < s.size) (w : World) : (Instr.index 9 (.string s) (.int .i64 (k : Int))).run Tryz.prog w = .ok (.int .u8 (s[k].toNat : Int)) w := by
  have hx : 0 ≤ (k : Int) ∧ (k : Int) < s.size := by omega
  rw [run_index_string w 9 _ .i64 (k : Int) Tryz.underlying9, dif_pos hx]
  rfl
def Tab (w : World) : Prop := ∀ r : Nat, r < 16 → w.cell? ⟨0, r, none⟩ = some (.int .u32 (tab r : Nat))
theorem with14 (x : Nat) (hx : x < 4294967296) (c : UInt8) (w : World) (ht : Tab w) :
    Calls Tryz.prog 191 #[.int .u32 (x : Int), .int .u8 (c.toNat : Int)] w fun e w' => e = .returned (.int .u32 (eight (x ^^^ c.toNat) : Nat)) ∧ w' = w := by
  have hc := c.toNat_lt
  have e1 : bits .xor .u32 (x : Int) (c.toNat : Int) = ((x ^^^ c.toNat : Nat) : Int) := u32_xor_nat _ _ hx (by omega)
  have hy := byte_lt hx c
  unfold eight
  generalize x ^^^ c.toNat = y at *
  have e2 : bits .xor .u32 ((y : Int) / 16) (tab (y % 16) : Nat) = (fourH y : Nat) := by rw [show (y : Int) / 16 = ((y / 16 : Nat) : Int) from rfl]; rw [u32_xor_nat _ _ (by omega) (tab_lt _), ← fourH_tab]
  have c2 := ht (y % 16) (by omega)
  have hz := fourH_lt hy
  generalize fourH y = z at *
  have e3 : bits .xor .u32 ((z : Int) / 16) (tab (z % 16) : Nat) = (fourH z : Nat) := by rw [show (z : Int) / 16 = ((z / 16 : Nat) : Int) from rfl]; rw [u32_xor_nat _ _ (by omega) (tab_lt _), ← fourH_tab]
  have c3 := ht (z % 16) (by omega)
  generalize fourH z = u at *
  generalize c.toNat = cn at *
  clear ht
  go_enter Tryz.func191, Tryz.ntmps191
  go_wp2
  go_ret
  exact ⟨rfl, rfl⟩
end Go.Proofs.YtfhhnelffldggaaGreatDoor.Q
namespace Go.Proofs.YtfhhnelffldggaaGreatDoor
open Go.RowKit Go.PlainAid
set_option linter.unusedVariables false
theorem wrap_in {n : Int} (h0 : -9223372036854775808 ≤ n) (h1 : n ≤ 9223372036854775807) : IntKind.i64.wrap n = n := by
  rw [IntKind.wrap_i64]
  omega
theorem wrap64_in {n : Int} (h0 : -9223372036854775808 ≤ n) (h1 : n ≤ 9223372036854775807) : wrap64 n = n := by
  rw [← i64_is]
  exact wrap_in h0 h1
theorem sQ : (∀ {α : Type} {xs : List α} {i : Nat} {a : α}, xs.toArray.setIfInBounds i a = (xs.set i a).toArray) ∧ (∀ {α : Type} {x a : α} {xs : List α}, (x :: xs).set 0 a = a :: xs) ∧ (∀ {α : Type} {x a : α} {xs : List α} {i : Nat}, (x :: xs).set (i + 1) a = x :: xs.set i a) ∧ (∀ {α : Type} {xs : List α} {i : Nat} (h : i < xs.toArray.size), xs.toArray[i] = xs[i]'(by simpa using h)) ∧ (∀ {α : Type} {a : α} {l : List α} {h : 0 < (a :: l).length}, (a :: l)[0] = a) ∧ (∀ {α : Type} {a : α} {l : List α} {i : Nat} {h : i + 1 < (a :: l).length}, (a :: l)[i + 1] = l[i]'(by simpa using h)) :=
  ⟨List.setIfInBounds_toArray .., rfl, rfl, fun h => List.getElem_toArray h, rfl, rfl⟩
theorem tkQ {P : Program} {ops : Array Oper} {Q : Exit → Act → World → Prop} {md : Region.Mode} {S : World → Prop} (i : Nat) {oi : Oper} (v : Value) {fuel : Nat} {listed : Array Bool} {a : Act} {w : World} (hi : ops[i]? = some oi)
    (hy : ∀ w, S w → (execOp a.eval oi).run P w = .ok (.value v) w) (h : wpAnyH P md ops Q S fuel (listed.setIfInBounds i true) (a.put oi.dst v) w)
    (hk : (Region.noSelect ops && Region.free md ops listed i && (Region.ready md ops listed).contains i) = true := by kernel_rfl)
    (hQ : ∀ c a w, Q (.panic c) (a.put oi.dst v) w → Q (.panic c) a w := by exact fun _ _ _ h => h) (hw : Region.wanted oi (yielded ops a.tmps) = true := by rfl) (hS : S w := by assumption) : wpAnyH P md ops Q S (fuel + 1) listed a w := by
  simp only [Bool.and_eq_true] at hk
  exact wpAnyH_take hi hk.1.1 hk.1.2 hk.2 hQ (Or.inl ⟨hw, hy⟩) hS h
theorem hq {p : Prop} (h : p) : Hid p := h
theorem rq {W W' : World} {k : Nat} {o : Obj} (h : Hid (W.heap[k]? = some o)) (hb : Below W.heap.size W W') : Hid (W'.heap[k]? = some o) := by
  refine (hb.block k ?_).trans h.out
  rcases Nat.lt_or_ge k W.heap.size with h' | h'
  · exact h'
  · have h2 := h.out
    rw [Array.getElem?_eq_none h'] at h2; cases h2
theorem bq {w W W' : World} (h : Hid (Below w.heap.size w W)) (hb : Below W.heap.size W W') : Hid (Below w.heap.size w W') := h.out.trans (hb.mono h.out.size)
abbrev oB (k n d v : Int) : Obj := .cells #[.int .i64 k, .int .i64 n, .int .i64 d, .int .i64 v] 82
set_option linter.unusedSimpArgs false
theorem inS (l m n : Int) (b : Bool) (hb : decide (l ≤ n ∧ n ≤ m) = b) (w : World) : Calls Tryz.prog 97 #[.int .i64 n, .int .i64 l, .int .i64 m] w fun e w' => e = .returned (.bool b) ∧ w' = w := by
  go_enter Tryz.func97, Tryz.ntmps97
  by_cases h1 : l ≤ n
  · by_cases h2 : n ≤ m
    · go_wp2
      go_ret
      exact ⟨by rw [← hb, decide_eq_true ⟨h1, h2⟩]; rfl, rfl⟩
    · go_wp2
      go_ret
      exact ⟨by rw [← hb, decide_eq_false (fun h => by omega)]; rfl, rfl⟩
  · go_wp2
    go_ret
    exact ⟨by rw [← hb, decide_eq_false (fun h => by omega)]; rfl, rfl⟩
theorem bel_on {w W W' : World} {B : Nat} (hB : B ≤ w.heap.size) (h : Below B w W) (hb : Below W.heap.size W W') : Below B w W' := h.trans (hb.mono (Nat.le_trans hB h.size))
theorem row_lt {w : World} {k : Nat} {o : Obj} (h : w.heap[k]? = some o) : k < w.heap.size := by
  rcases Nat.lt_or_ge k w.heap.size with h' | h'
  · exact h'
  · rw [Array.getElem?_eq_none h'] at h; cases h
theorem row_on {w w' : World} {k : Nat} {o : Obj} (h : w.heap[k]? = some o) (hb : Below w.heap.size w w') : w'.heap[k]? = some o := (hb.block k (row_lt h)).trans h
theorem heap_new (w : World) (o : Obj) : (w.alloc o).heap[w.heap.size]? = some o := by
  show (w.heap.push _)[w.heap.size]? = _
  simp
theorem box4_cells {w : World} {k : Nat} {t : TypeId} {x0 x1 x2 x3 : Value} (h : w.heap[k]? = some (.cells #[x0, x1, x2, x3] t)) :
    (w.cell? ⟨k, 0, none⟩ = some x0 ∧ w.cell? ⟨k, 1, none⟩ = some x1 ∧ w.cell? ⟨k, 2, none⟩ = some x2 ∧ w.cell? ⟨k, 3, none⟩ = some x3) ∧ w.frozen? ⟨k, 0, none⟩ = false ∧ w.frozen? ⟨k, 1, none⟩ = false ∧ w.frozen? ⟨k, 2, none⟩ = false ∧ w.frozen? ⟨k, 3, none⟩ = false := by
  refine ⟨⟨?_, ?_, ?_, ?_⟩, ?_, ?_, ?_, ?_⟩ <;> simp [World.cell?, World.frozen?, h]
def OrdR (k n d v : Int) : Prop := (k = 1 ∧ (1 ≤ d ∧ d ≤ 1000) ∧ (1 ≤ n ∧ n ≤ 1000) ∧ n ≤ 3 * d ∧ (1 ≤ v ∧ v ≤ 5000)) ∨ (k = 2 ∧ (1 ≤ v ∧ v ≤ 100) ∧ n = 0 ∧ d = 0) ∨ ((3 ≤ k ∧ k ≤ 6) ∧ n = 0 ∧ d = 0 ∧ v = 0)
def ordV (k n d v : Int) : Value := .agg #[.int .i64 k, .int .i64 n, .int .i64 d, .int .i64 v]
theorem ord_bool (k n d v : Int) : ∃ b : Bool, b = true ↔ OrdR k n d v := by
  by_cases h : OrdR k n d v
  · exact ⟨true, ⟨fun _ => h, fun _ => rfl⟩⟩
  · exact ⟨false, ⟨fun e => (by cases e), fun e => absurd e h⟩⟩
theorem ord_yes {k n d v : Int} {b : Bool} (hb : b = true ↔ OrdR k n d v) (h : OrdR k n d v) : b = true := hb.2 h
theorem ord_no {k n d v : Int} {b : Bool} (hb : b = true ↔ OrdR k n d v) (h : ¬ OrdR k n d v) : b = false := by
  cases b
  · rfl
  · exact absurd (hb.1 rfl) h
theorem OrdR.bd {k n d v : Int} (h : OrdR k n d v) : (1 ≤ k ∧ k ≤ 6) ∧ (0 ≤ n ∧ n ≤ 1000) ∧ (0 ≤ d ∧ d ≤ 1000) ∧ 0 ≤ v ∧ v ≤ 5000 := by
  unfold OrdR at h
  omega
theorem ordokS (k n d v : Int) (b : Bool) (hb : b = true ↔ OrdR k n d v) (w : World) : Calls Tryz.prog 106 #[ordV k n d v] w fun e w' => e = .returned (.bool b) ∧ Below w.heap.size w w' := by
  unfold ordV
  have HB : Hid (Below w.heap.size w (w.alloc (oB k n d v))) := (Below.refl _ _).alloc (Nat.le_refl _) _
  have HK : Hid ((w.alloc (oB k n d v)).heap[w.heap.size]? = some (oB k n d v)) := heap_new w _
  have k0 := box4_cells HK.out
  by_cases k1 : k = 1
  · subst k1
    by_cases hd : 1 ≤ d ∧ d ≤ 1000
    · have Dd := decide_eq_true hd
      by_cases hn : 1 ≤ n ∧ n ≤ 1000
      · have Dn := decide_eq_true hn
        have hw : IntKind.i64.wrap (3 * d) = 3 * d := by rw [IntKind.wrap_i64]; omega
        by_cases h3 : n ≤ 3 * d
        · by_cases hv : 1 ≤ v ∧ v ≤ 5000
          · have Dv := decide_eq_true hv
            obtain rfl : b = true := (ord_yes hb (by unfold OrdR; omega))
            clear hb hv hd hn
            go_enter Tryz.func106, Tryz.ntmps106
            go_wp2_with fail
            refine (inS 1 1000 d true Dd _).mono ?_
            rintro e w1 ⟨rfl, rfl⟩
            go_wp2_with fail
            refine (inS 1 1000 n true Dn _).mono ?_
            rintro e w1 ⟨rfl, rfl⟩
            go_wp2_with fail
            refine (inS 1 5000 v true Dv _).mono ?_
            rintro e w1 ⟨rfl, rfl⟩
            go_wp2
            go_ret
            exact ⟨rfl, HB.out⟩
          · have Dv := decide_eq_false hv
            obtain rfl : b = false := (ord_no hb (fun h => by unfold OrdR at h; omega))
            clear hb hv hd hn
            go_enter Tryz.func106, Tryz.ntmps106
            go_wp2_with fail
            refine (inS 1 1000 d true Dd _).mono ?_
            rintro e w1 ⟨rfl, rfl⟩
            go_wp2_with fail
            refine (inS 1 1000 n true Dn _).mono ?_
            rintro e w1 ⟨rfl, rfl⟩
            go_wp2_with fail
            refine (inS 1 5000 v false Dv _).mono ?_
            rintro e w1 ⟨rfl, rfl⟩
            go_wp2
            go_ret
            exact ⟨rfl, HB.out⟩
        · obtain rfl : b = false := (ord_no hb (fun h => by unfold OrdR at h; omega))
          clear hb hd hn
          go_enter Tryz.func106, Tryz.ntmps106
          go_wp2_with fail
          refine (inS 1 1000 d true Dd _).mono ?_
          rintro e w1 ⟨rfl, rfl⟩
          go_wp2_with fail
          refine (inS 1 1000 n true Dn _).mono ?_
          rintro e w1 ⟨rfl, rfl⟩
          go_wp2
          go_ret
          exact ⟨rfl, HB.out⟩
      · have Dn := decide_eq_false hn
        obtain rfl : b = false := (ord_no hb (fun h => by unfold OrdR at h; omega))
        clear hb hd hn
        go_enter Tryz.func106, Tryz.ntmps106
        go_wp2_with fail
        refine (inS 1 1000 d true Dd _).mono ?_
        rintro e w1 ⟨rfl, rfl⟩
        go_wp2_with fail
        refine (inS 1 1000 n false Dn _).mono ?_
        rintro e w1 ⟨rfl, rfl⟩
        go_wp2
        go_ret
        exact ⟨rfl, HB.out⟩
    · have Dd := decide_eq_false hd
      obtain rfl : b = false := (ord_no hb (fun h => by unfold OrdR at h; omega))
      clear hb hd
      go_enter Tryz.func106, Tryz.ntmps106
      go_wp2_with fail
      refine (inS 1 1000 d false Dd _).mono ?_
      rintro e w1 ⟨rfl, rfl⟩
      go_wp2
      go_ret
      exact ⟨rfl, HB.out⟩
  by_cases k2 : k = 2
  · subst k2
    obtain ⟨x, hx⟩ : ∃ x, decide (1 ≤ v ∧ v ≤ 100) = x := ⟨_, rfl⟩
    have HE : Hid (b = (x && (n == 0 && d == 0))) := by
      show b = _
      rw [← hx]
      by_cases h : OrdR 2 n d v
      · rw [ord_yes hb h]
        unfold OrdR at h
        rw [decide_eq_true (by omega), show n = 0 by omega, show d = 0 by omega]; rfl
      · rw [ord_no hb h]
        unfold OrdR at h
        by_cases e1 : 1 ≤ v ∧ v ≤ 100
        · by_cases e2 : n = 0
          · have e3 : (d == 0) = false := by simp; omega
            rw [e3]; simp
          · have e3 : (n == 0) = false := by simpa using e2
            rw [e3]; simp
        · rw [decide_eq_false e1]; rfl
    clear hb
    go_enter Tryz.func106, Tryz.ntmps106
    go_wp2_with fail
    refine (inS 1 100 v x hx _).mono ?_
    rintro e w1 ⟨rfl, rfl⟩
    clear hx
    cases x
    · go_wp2
      go_ret
      exact ⟨by rw [HE.out]; rfl, HB.out⟩
    · by_cases e2 : n = 0
      · subst e2
        go_wp2
        go_ret
        exact ⟨by rw [HE.out]; simp, HB.out⟩
      · have e3 : (n == 0) = false := by simpa using e2
        rw [e3] at HE
        clear e2
        go_wp2
        go_ret
        exact ⟨by rw [HE.out]; rfl, HB.out⟩
  · have q1 : (k == 1) = false := by simpa using k1
    have q2 : (k == 2) = false := by simpa using k2
    obtain ⟨x, hx⟩ : ∃ x, decide (3 ≤ k ∧ k ≤ 6) = x := ⟨_, rfl⟩
    have HE : Hid (b = (x && (n == 0 && (d == 0 && v == 0)))) := by
      show b = _
      rw [← hx]
      by_cases h : OrdR k n d v
      · rw [ord_yes hb h]
        unfold OrdR at h
        rw [decide_eq_true (by omega), show n = 0 by omega, show d = 0 by omega, show v = 0 by omega]; rfl
      · rw [ord_no hb h]
        unfold OrdR at h
        by_cases e1 : 3 ≤ k ∧ k ≤ 6
        · by_cases e2 : n = 0
          · by_cases e4 : d = 0
            · have e3 : (v == 0) = false := by simp; omega
              rw [e3]; simp
            · have e3 : (d == 0) = false := by simpa using e4
              rw [e3]; simp
          · have e3 : (n == 0) = false := by simpa using e2
            rw [e3]; simp
        · rw [decide_eq_false e1]; rfl
    clear hb k1 k2
    go_enter Tryz.func106, Tryz.ntmps106
    go_wp2_with fail
    refine (inS 3 6 k x hx _).mono ?_
    rintro e w1 ⟨rfl, rfl⟩
    clear hx
    cases x
    · go_wp2
      go_ret
      exact ⟨by rw [HE.out]; rfl, HB.out⟩
    · by_cases e2 : n = 0
      · subst e2
        by_cases e4 : d = 0
        · subst e4
          go_wp2
          go_ret
          exact ⟨by rw [HE.out]; simp, HB.out⟩
        · have e3 : (d == 0) = false := by simpa using e4
          rw [e3] at HE
          clear e4
          go_wp2
          go_ret
          exact ⟨by rw [HE.out]; simp, HB.out⟩
      · have e3 : (n == 0) = false := by simpa using e2
        rw [e3] at HE
        clear e2
        go_wp2
        go_ret
        exact ⟨by rw [HE.out]; rfl, HB.out⟩
theorem holdsI (l m n : Int) (b : Bool) (hb : decide (l ≤ n ∧ n ≤ m) = b) (w : World) : Calls Tryz.prog 111 #[.agg #[.int .i64 l, .int .i64 m], .int .i64 n] w fun e w' => e = .returned (.bool b) ∧ Below w.heap.size w w' := by
  go_enter Tryz.func111, Tryz.ntmps111
  by_cases h1 : l ≤ n
  · by_cases h2 : n ≤ m
    · go_wp2
      go_ret
      exact ⟨by rw [← hb, decide_eq_true ⟨h1, h2⟩]; rfl, (Below.refl _ _).alloc (Nat.le_refl _) _⟩
    · go_wp2
      go_ret
      exact ⟨by rw [← hb, decide_eq_false (fun h => by omega)]; rfl, (Below.refl _ _).alloc (Nat.le_refl _) _⟩
  · go_wp2
    go_ret
    exact ⟨by rw [← hb, decide_eq_false (fun h => by omega)]; rfl, (Below.refl _ _).alloc (Nat.le_refl _) _⟩
def BasR (n d v : Int) : Prop := (1 ≤ d ∧ d ≤ 1000) ∧ (1 ≤ n ∧ n ≤ 1000) ∧ n ≤ 3 * d ∧ (1 ≤ v ∧ v ≤ 5000)
theorem bas_no {n d v : Int} {b : Bool} (hb : b = true ↔ BasR n d v) (h : ¬ BasR n d v) : b = false := by
  cases b
  · rfl
  · exact absurd (hb.1 rfl) h
theorem basalI (k n d v : Int) (b : Bool) (hb : b = true ↔ BasR n d v) (w : World) : Calls Tryz.prog 184 #[ordV k n d v] w fun e w' => e = .returned (.bool b) ∧ Below w.heap.size w w' := by
  unfold ordV
  have HB0 : Hid (Below w.heap.size w (w.alloc (oB k n d v))) := (Below.refl _ _).alloc (Nat.le_refl _) _
  have HK0 : Hid ((w.alloc (oB k n d v)).heap[w.heap.size]? = some (oB k n d v)) := heap_new w _
  have k0 := box4_cells HK0.out
  by_cases hd : 1 ≤ d ∧ d ≤ 1000
  · have Dd := decide_eq_true hd
    by_cases hn : 1 ≤ n ∧ n ≤ 1000
    · have Dn := decide_eq_true hn
      have hw : IntKind.i64.wrap (d * 3) = d * 3 := by rw [IntKind.wrap_i64]; omega
      by_cases h3 : n ≤ d * 3
      · by_cases hv : 1 ≤ v ∧ v ≤ 5000
        · have Dv := decide_eq_true hv
          obtain rfl : b = true := hb.2 (by unfold BasR; omega)
          clear hb hv hd hn
          go_enter Tryz.func184, Tryz.ntmps184
          go_wp2_with fail
          refine (holdsI 1 1000 d true Dd _).mono ?_
          rintro e w1 ⟨rfl, hb1⟩
          have HB1 := bq HB0 hb1
          have HK1 := rq HK0 hb1
          have k1 := box4_cells HK1.out
          clear hb1 HB0 HK0 k0
          go_wp2_with fail
          refine (holdsI 1 1000 n true Dn _).mono ?_
          rintro e w2 ⟨rfl, hb2⟩
          have HB2 := bq HB1 hb2
          have HK2 := rq HK1 hb2
          have k2 := box4_cells HK2.out
          clear hb2 HB1 HK1 k1
          go_wp2_with fail
          refine (holdsI 1 5000 v true Dv _).mono ?_
          rintro e w3 ⟨rfl, hb3⟩
          have HB3 := bq HB2 hb3
          have HK3 := rq HK2 hb3
          have k3 := box4_cells HK3.out
          clear hb3 HB2 HK2 k2
          go_wp2
          go_ret
          exact ⟨rfl, HB3.out⟩
        · have Dv := decide_eq_false hv
          obtain rfl : b = false := bas_no hb (fun h => by unfold BasR at h; omega)
          clear hb hv hd hn
          go_enter Tryz.func184, Tryz.ntmps184
          go_wp2_with fail
          refine (holdsI 1 1000 d true Dd _).mono ?_
          rintro e w1 ⟨rfl, hb1⟩
          have HB1 := bq HB0 hb1
          have HK1 := rq HK0 hb1
          have k1 := box4_cells HK1.out
          clear hb1 HB0 HK0 k0
          go_wp2_with fail
          refine (holdsI 1 1000 n true Dn _).mono ?_
          rintro e w2 ⟨rfl, hb2⟩
          have HB2 := bq HB1 hb2
          have HK2 := rq HK1 hb2
          have k2 := box4_cells HK2.out
          clear hb2 HB1 HK1 k1
          go_wp2_with fail
          refine (holdsI 1 5000 v false Dv _).mono ?_
          rintro e w3 ⟨rfl, hb3⟩
          have HB3 := bq HB2 hb3
          have HK3 := rq HK2 hb3
          have k3 := box4_cells HK3.out
          clear hb3 HB2 HK2 k2
          go_wp2
          go_ret
          exact ⟨rfl, HB3.out⟩
      · have _t := trivial
        obtain rfl : b = false := bas_no hb (fun h => by unfold BasR at h; omega)
        clear hb hd hn
        go_enter Tryz.func184, Tryz.ntmps184
        go_wp2_with fail
        refine (holdsI 1 1000 d true Dd _).mono ?_
        rintro e w1 ⟨rfl, hb1⟩
        have HB1 := bq HB0 hb1
        have HK1 := rq HK0 hb1
        have k1 := box4_cells HK1.out
        clear hb1 HB0 HK0 k0
        go_wp2_with fail
        refine (holdsI 1 1000 n true Dn _).mono ?_
        rintro e w2 ⟨rfl, hb2⟩
        have HB2 := bq HB1 hb2
        have HK2 := rq HK1 hb2
        have k2 := box4_cells HK2.out
        clear hb2 HB1 HK1 k1
        go_wp2
        go_ret
        exact ⟨rfl, HB2.out⟩
    · have Dn := decide_eq_false hn
      obtain rfl : b = false := bas_no hb (fun h => by unfold BasR at h; omega)
      clear hb hd hn
      go_enter Tryz.func184, Tryz.ntmps184
      go_wp2_with fail
      refine (holdsI 1 1000 d true Dd _).mono ?_
      rintro e w1 ⟨rfl, hb1⟩
      have HB1 := bq HB0 hb1
      have HK1 := rq HK0 hb1
      have k1 := box4_cells HK1.out
      clear hb1 HB0 HK0 k0
      go_wp2_with fail
      refine (holdsI 1 1000 n false Dn _).mono ?_
      rintro e w2 ⟨rfl, hb2⟩
      have HB2 := bq HB1 hb2
      have HK2 := rq HK1 hb2
      have k2 := box4_cells HK2.out
      clear hb2 HB1 HK1 k1
      go_wp2
      go_ret
      exact ⟨rfl, HB2.out⟩
  · have Dd := decide_eq_false hd
    obtain rfl : b = false := bas_no hb (fun h => by unfold BasR at h; omega)
    clear hb hd
    go_enter Tryz.func184, Tryz.ntmps184
    go_wp2_with fail
    refine (holdsI 1 1000 d false Dd _).mono ?_
    rintro e w1 ⟨rfl, hb1⟩
    have HB1 := bq HB0 hb1
    have HK1 := rq HK0 hb1
    have k1 := box4_cells HK1.out
    clear hb1 HB0 HK0 k0
    go_wp2
    go_ret
    exact ⟨rfl, HB1.out⟩
theorem ordokI (k n d v : Int) (b : Bool) (hb : b = true ↔ OrdR k n d v) (w : World) : Calls Tryz.prog 169 #[ordV k n d v] w fun e w' => e = .returned (.bool b) ∧ Below w.heap.size w w' := by
  unfold ordV
  have HB0 : Hid (Below w.heap.size w (w.alloc (oB k n d v))) := (Below.refl _ _).alloc (Nat.le_refl _) _
  have HK0 : Hid ((w.alloc (oB k n d v)).heap[w.heap.size]? = some (oB k n d v)) := heap_new w _
  have k0 := box4_cells HK0.out
  by_cases k1 : k = 1
  · subst k1
    have Hb : Hid (b = true ↔ BasR n d v) := by
      show b = true ↔ BasR n d v
      rw [hb]
      unfold OrdR BasR
      omega
    clear hb
    go_enter Tryz.func169, Tryz.ntmps169
    go_wp2_with fail
    refine (basalI 1 n d v b Hb.out _).mono ?_
    rintro e w1 ⟨rfl, hb1⟩
    have HB1 := bq HB0 hb1
    have HK1 := rq HK0 hb1
    have k1 := box4_cells HK1.out
    clear hb1 HB0 HK0 k0
    go_wp2
    go_ret
    exact ⟨rfl, HB1.out⟩
  by_cases k2 : k = 2
  · subst k2
    by_cases hv : 1 ≤ v ∧ v ≤ 100
    · have Dv := decide_eq_true hv
      by_cases hn : n = 0
      · by_cases hd : d = 0
        · have _t := trivial
          obtain rfl : b = true := ord_yes hb (by unfold OrdR; omega)
          clear hb hv
          subst hn
          subst hd
          go_enter Tryz.func169, Tryz.ntmps169
          go_wp2_with fail
          refine (holdsI 1 100 v true Dv _).mono ?_
          rintro e w1 ⟨rfl, hb1⟩
          have HB1 := bq HB0 hb1
          have HK1 := rq HK0 hb1
          have k1 := box4_cells HK1.out
          clear hb1 HB0 HK0 k0
          go_wp2
          go_ret
          exact ⟨rfl, HB1.out⟩
        · have _t := trivial
          obtain rfl : b = false := ord_no hb (fun h => by unfold OrdR at h; omega)
          clear hb hv
          subst hn
          go_enter Tryz.func169, Tryz.ntmps169
          go_wp2_with fail
          refine (holdsI 1 100 v true Dv _).mono ?_
          rintro e w1 ⟨rfl, hb1⟩
          have HB1 := bq HB0 hb1
          have HK1 := rq HK0 hb1
          have k1 := box4_cells HK1.out
          clear hb1 HB0 HK0 k0
          go_wp2
          go_ret
          exact ⟨rfl, HB1.out⟩
      · have _t := trivial
        obtain rfl : b = false := ord_no hb (fun h => by unfold OrdR at h; omega)
        clear hb hv
        go_enter Tryz.func169, Tryz.ntmps169
        go_wp2_with fail
        refine (holdsI 1 100 v true Dv _).mono ?_
        rintro e w1 ⟨rfl, hb1⟩
        have HB1 := bq HB0 hb1
        have HK1 := rq HK0 hb1
        have k1 := box4_cells HK1.out
        clear hb1 HB0 HK0 k0
        go_wp2
        go_ret
        exact ⟨rfl, HB1.out⟩
    · have Dv := decide_eq_false hv
      obtain rfl : b = false := ord_no hb (fun h => by unfold OrdR at h; omega)
      clear hb hv
      go_enter Tryz.func169, Tryz.ntmps169
      go_wp2_with fail
      refine (holdsI 1 100 v false Dv _).mono ?_
      rintro e w1 ⟨rfl, hb1⟩
      have HB1 := bq HB0 hb1
      have HK1 := rq HK0 hb1
      have k1 := box4_cells HK1.out
      clear hb1 HB0 HK0 k0
      go_wp2
      go_ret
      exact ⟨rfl, HB1.out⟩
  by_cases k3 : 3 ≤ k ∧ k ≤ 6
  · have q1 : (k == 1) = false := by simpa using k1
    have q2 : (k == 2) = false := by simpa using k2
    have ways : k = 3 ∨ k = 4 ∨ k = 5 ∨ k = 6 := by omega
    by_cases hn : n = 0
    · by_cases hd : d = 0
      · by_cases hv : v = 0
        · have _t := trivial
          obtain rfl : b = true := ord_yes hb (by unfold OrdR; omega)
          clear hb
          subst hn
          subst hd
          subst hv
          rcases ways with rfl | rfl | rfl | rfl <;>
          · clear q1 q2
            go_enter Tryz.func169, Tryz.ntmps169
            go_wp2
            go_ret
            exact ⟨rfl, HB0.out⟩
        · have _t := trivial
          obtain rfl : b = false := ord_no hb (fun h => by unfold OrdR at h; omega)
          clear hb
          subst hn
          subst hd
          rcases ways with rfl | rfl | rfl | rfl <;>
          · clear q1 q2
            go_enter Tryz.func169, Tryz.ntmps169
            go_wp2
            go_ret
            exact ⟨rfl, HB0.out⟩
      · have _t := trivial
        obtain rfl : b = false := ord_no hb (fun h => by unfold OrdR at h; omega)
        clear hb
        subst hn
        rcases ways with rfl | rfl | rfl | rfl <;>
        · clear q1 q2
          go_enter Tryz.func169, Tryz.ntmps169
          go_wp2
          go_ret
          exact ⟨rfl, HB0.out⟩
    · have _t := trivial
      obtain rfl : b = false := ord_no hb (fun h => by unfold OrdR at h; omega)
      clear hb
      rcases ways with rfl | rfl | rfl | rfl <;>
      · clear q1 q2
        go_enter Tryz.func169, Tryz.ntmps169
        go_wp2
        go_ret
        exact ⟨rfl, HB0.out⟩
  · obtain rfl : b = false := ord_no hb (fun h => by unfold OrdR at h; omega)
    have q1 : (k == 1) = false := by simpa using k1
    have q2 : (k == 2) = false := by simpa using k2
    have q3 : (k == 3) = false := by simp; omega
    have q4 : (k == 4) = false := by simp; omega
    have q5 : (k == 5) = false := by simp; omega
    have q6 : (k == 6) = false := by simp; omega
    clear hb k1 k2 k3
    go_enter Tryz.func169, Tryz.ntmps169
    go_wp2
    go_ret
    exact ⟨rfl, HB0.out⟩
end Go.Proofs.YtfhhnelffldggaaGreatDoor
namespace Go.Proofs.YtfhhnelffldggaaGreatDoor
open Go.RowKit Go.PlainAid
set_option linter.unusedVariables false
def rateV (n d r : Int) : Value := .agg #[.int .i64 n, .int .i64 d, .int .i64 r]
def rateOk (n d r : Int) : Bool := decide ((0 ≤ n ∧ n ≤ 1000000 ∧ 1 ≤ d ∧ d ≤ 1000000 ∧ 0 ≤ r ∧ r ≤ d - 1))
theorem rat_on {w W' : World} {k : Nat} {t : TypeId} {x y z : Value} (h : w.heap[k]? = some (.cells #[x, y, z] t)) (hb : Below w.heap.size w W') :
    W'.heap[k]? = some (.cells #[x, y, z] t) := by
  have hlt : k < w.heap.size := by
    rcases Nat.lt_or_ge k w.heap.size with h' | h'
    · exact h'
    · rw [Array.getElem?_eq_none h'] at h; cases h
  rw [hb.block k hlt]
  exact h
theorem rat_cells {w : World} {k : Nat} {t : TypeId} {x y z : Value} (h : w.heap[k]? = some (.cells #[x, y, z] t)) :
    w.cell? ⟨k, 0, none⟩ = some x ∧ w.cell? ⟨k, 1, none⟩ = some y ∧ w.cell? ⟨k, 2, none⟩ = some z ∧ w.frozen? ⟨k, 0, none⟩ = false ∧ w.frozen? ⟨k, 1, none⟩ = false ∧ w.frozen? ⟨k, 2, none⟩ = false := by
  refine ⟨?_, ?_, ?_, ?_, ?_, ?_⟩ <;> simp [World.cell?, World.frozen?, h]
theorem rateS (n d r : Int) (w : World) : Calls Tryz.prog 150 #[rateV n d r] w fun e w' => e = .returned (.bool (rateOk n d r)) ∧ Below w.heap.size w w' := by
  unfold rateV
  have hb0 : Below w.heap.size w (w.alloc (.cells #[.int .i64 n, .int .i64 d, .int .i64 r] 27)) := (Below.refl _ _).alloc (Nat.le_refl _) _
  go_enter Tryz.func150, Tryz.ntmps150
  by_cases h1 : 0 ≤ n ∧ n ≤ 1000000
  · by_cases h2 : 1 ≤ d ∧ d ≤ 1000000
    · by_cases h3 : 0 ≤ r ∧ r ≤ d - 1
      · go_wp2_with fail
        refine (inS 0 1000000 n true (decide_eq_true h1) _).mono ?_
        rintro e w1 ⟨rfl, rfl⟩
        go_wp2_with fail
        refine (inS 1 1000000 d true (decide_eq_true h2) _).mono ?_
        rintro e w1 ⟨rfl, rfl⟩
        go_wp2_with fail
        refine (inS 0 (d - 1) r true (decide_eq_true h3) _).mono ?_
        rintro e w1 ⟨rfl, rfl⟩
        go_wp2
        go_ret
        exact ⟨by rw [show rateOk n d r = true from decide_eq_true (by omega)]; rfl, hb0⟩
      · go_wp2_with fail
        refine (inS 0 1000000 n true (decide_eq_true h1) _).mono ?_
        rintro e w1 ⟨rfl, rfl⟩
        go_wp2_with fail
        refine (inS 1 1000000 d true (decide_eq_true h2) _).mono ?_
        rintro e w1 ⟨rfl, rfl⟩
        go_wp2_with fail
        refine (inS 0 (d - 1) r false (decide_eq_false h3) _).mono ?_
        rintro e w1 ⟨rfl, rfl⟩
        go_wp2
        go_ret
        exact ⟨by rw [show rateOk n d r = false from decide_eq_false (by omega)]; rfl, hb0⟩
    · go_wp2_with fail
      refine (inS 0 1000000 n true (decide_eq_true h1) _).mono ?_
      rintro e w1 ⟨rfl, rfl⟩
      go_wp2_with fail
      refine (inS 1 1000000 d false (decide_eq_false h2) _).mono ?_
      rintro e w1 ⟨rfl, rfl⟩
      go_wp2
      go_ret
      exact ⟨by rw [show rateOk n d r = false from decide_eq_false (by omega)]; rfl, hb0⟩
  · go_wp2_with fail
    refine (inS 0 1000000 n false (decide_eq_false h1) _).mono ?_
    rintro e w1 ⟨rfl, rfl⟩
    go_wp2
    go_ret
    exact ⟨by rw [show rateOk n d r = false from decide_eq_false (by omega)]; rfl, hb0⟩
theorem rateI (n d r : Int) (w : World) : Calls Tryz.prog 112 #[rateV n d r] w fun e w' => e = .returned (.bool (rateOk n d r)) ∧ Below w.heap.size w w' := by
  unfold rateV
  have hb0 : Below w.heap.size w (w.alloc (.cells #[.int .i64 n, .int .i64 d, .int .i64 r] 27)) := (Below.refl _ _).alloc (Nat.le_refl _) _
  have hh : (w.alloc (.cells #[.int .i64 n, .int .i64 d, .int .i64 r] 27)).heap[w.heap.size]? = some (.cells #[.int .i64 n, .int .i64 d, .int .i64 r] 27) := heap_new _ _
  go_enter Tryz.func112, Tryz.ntmps112
  by_cases h1 : 0 ≤ n ∧ n ≤ 1000000
  · by_cases h2 : 1 ≤ d ∧ d ≤ 1000000
    · by_cases h3 : 0 ≤ r ∧ r ≤ d - 1
      · go_wp2_with fail
        refine (holdsI 0 1000000 n true (decide_eq_true h1) _).mono ?_
        rintro e w1 ⟨rfl, hb1⟩
        have hh1 := rat_on hh hb1
        have c11 := rat_cells hh1
        have bel1 := hb0.trans (hb1.mono hb0.size)
        go_wp2_with fail
        refine (holdsI 1 1000000 d true (decide_eq_true h2) _).mono ?_
        rintro e w2 ⟨rfl, hb2⟩
        have hh2 := rat_on hh1 hb2
        have c21 := rat_cells hh2
        have bel2 := bel1.trans (hb2.mono bel1.size)
        go_wp2_with fail
        refine (holdsI 0 (d - 1) r true (decide_eq_true h3) _).mono ?_
        rintro e w3 ⟨rfl, hb3⟩
        have hh3 := rat_on hh2 hb3
        have c31 := rat_cells hh3
        have bel3 := bel2.trans (hb3.mono bel2.size)
        go_wp2
        go_ret
        exact ⟨by rw [show rateOk n d r = true from decide_eq_true (by omega)]; rfl, bel3⟩
      · go_wp2_with fail
        refine (holdsI 0 1000000 n true (decide_eq_true h1) _).mono ?_
        rintro e w1 ⟨rfl, hb1⟩
        have hh1 := rat_on hh hb1
        have c11 := rat_cells hh1
        have bel1 := hb0.trans (hb1.mono hb0.size)
        go_wp2_with fail
        refine (holdsI 1 1000000 d true (decide_eq_true h2) _).mono ?_
        rintro e w2 ⟨rfl, hb2⟩
        have hh2 := rat_on hh1 hb2
        have c21 := rat_cells hh2
        have bel2 := bel1.trans (hb2.mono bel1.size)
        go_wp2_with fail
        refine (holdsI 0 (d - 1) r false (decide_eq_false h3) _).mono ?_
        rintro e w3 ⟨rfl, hb3⟩
        have hh3 := rat_on hh2 hb3
        have c31 := rat_cells hh3
        have bel3 := bel2.trans (hb3.mono bel2.size)
        go_wp2
        go_ret
        exact ⟨by rw [show rateOk n d r = false from decide_eq_false (by omega)]; rfl, bel3⟩
    · go_wp2_with fail
      refine (holdsI 0 1000000 n true (decide_eq_true h1) _).mono ?_
      rintro e w1 ⟨rfl, hb1⟩
      have hh1 := rat_on hh hb1
      have c11 := rat_cells hh1
      have bel1 := hb0.trans (hb1.mono hb0.size)
      go_wp2_with fail
      refine (holdsI 1 1000000 d false (decide_eq_false h2) _).mono ?_
      rintro e w2 ⟨rfl, hb2⟩
      have hh2 := rat_on hh1 hb2
      have c21 := rat_cells hh2
      have bel2 := bel1.trans (hb2.mono bel1.size)
      go_wp2
      go_ret
      exact ⟨by rw [show rateOk n d r = false from decide_eq_false (by omega)]; rfl, bel2⟩
  · go_wp2_with fail
    refine (holdsI 0 1000000 n false (decide_eq_false h1) _).mono ?_
    rintro e w1 ⟨rfl, hb1⟩
    have hh1 := rat_on hh hb1
    have c11 := rat_cells hh1
    have bel1 := hb0.trans (hb1.mono hb0.size)
    go_wp2
    go_ret
    exact ⟨by rw [show rateOk n d r = false from decide_eq_false (by omega)]; rfl, bel1⟩
def stepR (n d r : Int) : Int := if (0 ≤ n ∧ n ≤ 1000000 ∧ 1 ≤ d ∧ d ≤ 1000000 ∧ 0 ≤ r ∧ r ≤ d - 1) then (r + n) % d else r
def stepO (n d r : Int) : Int := if (0 ≤ n ∧ n ≤ 1000000 ∧ 1 ≤ d ∧ d ≤ 1000000 ∧ 0 ≤ r ∧ r ≤ d - 1) then (r + n) / d else 0
theorem two_rows {w w1 : World} {a b c x y z : Value} (hb1 : Below ((w.alloc (.cells #[a, b, c] 27)).alloc (.cells #[x, y, z] 27)).heap.size ((w.alloc (.cells #[a, b, c] 27)).alloc (.cells #[x, y, z] 27)) w1) :
    w1.heap[w.heap.size]? = some (.cells #[a, b, c] 27) ∧ w1.heap[w.heap.size + 1]? = some (.cells #[x, y, z] 27) ∧ Below w.heap.size w w1 := by
  have hb0 : Below w.heap.size w ((w.alloc (.cells #[a, b, c] 27)).alloc (.cells #[x, y, z] 27)) := ((Below.refl _ _).alloc (Nat.le_refl _) _).alloc (by simp) _
  refine ⟨rat_on ?_ hb1, rat_on ?_ hb1, hb0.trans (hb1.mono hb0.size)⟩
  · rw [Below.heap_alloc _ _ _ (by simp)]
    exact heap_new _ _
  · have := heap_new (w.alloc (.cells #[a, b, c] 27)) (.cells #[x, y, z] 27)
    simpa using this
theorem stepRS (n d r : Int) (w : World) : Calls Tryz.prog 110 #[rateV n d r] w fun e w' => e = .returned (.tuple #[rateV n d (stepR n d r), .int .i64 (stepO n d r)]) ∧ Below w.heap.size w w' := by
  have hs := rateS n d r
  by_cases hR : (0 ≤ n ∧ n ≤ 1000000 ∧ 1 ≤ d ∧ d ≤ 1000000 ∧ 0 ≤ r ∧ r ≤ d - 1)
  · rw [show stepR n d r = (r + n) % d from if_pos hR, show stepO n d r = (r + n) / d from if_pos hR]
    rw [show rateOk n d r = true from decide_eq_true hR] at hs
    obtain ⟨a1, a2, a3, a4, a5, a6⟩ := hR
    have dz : ¬ d = 0 := by omega
    unfold rateV at hs ⊢
    go_enter Tryz.func110, Tryz.ntmps110
    go_wp2_with fail
    refine (hs _).mono ?_
    rintro e w1 ⟨rfl, hb1⟩
    obtain ⟨g1, g2, bel⟩ := two_rows hb1
    have k1 := rat_cells g1
    have k2 := rat_cells g2
    clear hs hb1
    go_wp2
    refine bodyPost_ret (v := .tuple #[.agg #[.int .i64 n, .int .i64 d, .int .i64 ((r + n) % d)], .int .i64 ((r + n) / d)]) (by simp [results, Tryz.results110, go_sem, k2]) rfl ⟨rfl, ?_⟩
    exact (((bel.setCell (by simp) _).setCell (by simp) _).setCell (by simp) _).setCell (by simp) _
  · rw [show stepR n d r = r from if_neg hR, show stepO n d r = 0 from if_neg hR]
    rw [show rateOk n d r = false from decide_eq_false hR] at hs
    unfold rateV at hs ⊢
    go_enter Tryz.func110, Tryz.ntmps110
    go_wp2_with fail
    refine (hs _).mono ?_
    rintro e w1 ⟨rfl, hb1⟩
    obtain ⟨g1, g2, bel⟩ := two_rows hb1
    have k1 := rat_cells g1
    have k2 := rat_cells g2
    clear hs hb1
    go_wp2
    refine bodyPost_ret (v := .tuple #[.agg #[.int .i64 n, .int .i64 d, .int .i64 r], .int .i64 0]) (by simp [results, Tryz.results110, go_sem, k2]) rfl ⟨rfl, ?_⟩
    exact ((bel.setCell (by simp) _).setCell (by simp) _).setCell (by simp) _
theorem stepRI (n d r : Int) (w : World) : Calls Tryz.prog 185 #[rateV n d r] w fun e w' => e = .returned (.tuple #[rateV n d (stepR n d r), .int .i64 (stepO n d r)]) ∧ Below w.heap.size w w' := by
  have hs := rateI n d r
  by_cases hR : (0 ≤ n ∧ n ≤ 1000000 ∧ 1 ≤ d ∧ d ≤ 1000000 ∧ 0 ≤ r ∧ r ≤ d - 1)
  · rw [show stepR n d r = (r + n) % d from if_pos hR, show stepO n d r = (r + n) / d from if_pos hR]
    rw [show rateOk n d r = true from decide_eq_true hR] at hs
    obtain ⟨a1, a2, a3, a4, a5, a6⟩ := hR
    have dz : ¬ d = 0 := by omega
    unfold rateV at hs ⊢
    go_enter Tryz.func185, Tryz.ntmps185
    go_wp2_with fail
    refine (hs _).mono ?_
    rintro e w1 ⟨rfl, hb1⟩
    obtain ⟨g1, g2, bel⟩ := two_rows hb1
    have k1 := rat_cells g1
    have k2 := rat_cells g2
    clear hs hb1
    go_wp2
    go_region
    go_wp2
    refine bodyPost_ret (v := .tuple #[.agg #[.int .i64 n, .int .i64 d, .int .i64 ((r + n) % d)], .int .i64 ((r + n) / d)]) (by simp [results, Tryz.results185, go_sem, k2]) rfl ⟨rfl, ?_⟩
    refine Below.drew ?_
    exact (((bel.setCell (by simp) _).setCell (by simp) _).setCell (by simp) _).setCell (by simp) _
  · rw [show stepR n d r = r from if_neg hR, show stepO n d r = 0 from if_neg hR]
    rw [show rateOk n d r = false from decide_eq_false hR] at hs
    unfold rateV at hs ⊢
    go_enter Tryz.func185, Tryz.ntmps185
    go_wp2_with fail
    refine (hs _).mono ?_
    rintro e w1 ⟨rfl, hb1⟩
    obtain ⟨g1, g2, bel⟩ := two_rows hb1
    have k1 := rat_cells g1
    have k2 := rat_cells g2
    clear hs hb1
    go_wp2
    refine bodyPost_ret (v := .tuple #[.agg #[.int .i64 n, .int .i64 d, .int .i64 r], .int .i64 0]) (by simp [results, Tryz.results185, go_sem, k2]) rfl ⟨rfl, ?_⟩
    exact ((bel.setCell (by simp) _).setCell (by simp) _).setCell (by simp) _
end Go.Proofs.YtfhhnelffldggaaGreatDoor
namespace Go.Proofs.YtfhhnelffldggaaGreatDoor.Plain
def vt (n : Nat) : List UInt8 := if 127 < n then UInt8.ofNat (n % 128 + 128) :: vt (n / 128) else [UInt8.ofNat n]
theorem vt_big {n : Nat} (h : 127 < n) : vt n = UInt8.ofNat (n % 128 + 128) :: vt (n / 128) := by
  rw [vt, if_pos h]
theorem vt_small {n : Nat} (h : ¬ 127 < n) : vt n = [UInt8.ofNat n] := by
  rw [vt, if_neg h]
theorem vt_pos (n : Nat) : 0 < (vt n).length := by
  rw [vt]; split <;> simp
theorem toNat_big (m : Nat) : (UInt8.ofNat (m % 128 + 128)).toNat = m % 128 + 128 := by
  rw [UInt8.toNat_ofNat']; omega
theorem toNat_small {m : Nat} (h : ¬ 127 < m) : (UInt8.ofNat m).toNat = m := by
  rw [UInt8.toNat_ofNat']; omega
end Go.Proofs.YtfhhnelffldggaaGreatDoor.Plain
namespace Go.Proofs.YtfhhnelffldggaaGreatDoor
open Go.RowKit Go.PlainAid
set_option linter.unusedVariables false
section
variable {P : Program} {md : Region.Mode} {ops : Array Oper} {Q : Exit → Act → World → Prop} {S : World → Prop}
theorem any_states {σ : Type} (L : σ → Array Bool) (E : σ → List Nat) (rk : σ → Nat) (ok fin : σ → Bool) (St : σ → Act → World → Prop)
    (hrd : ∀ s, ok s = true → fin s = false → Region.ready md ops (L s) = E s ∧ E s ≠ [] ∧ 0 < rk s)
    (hst : ∀ s i, ok s = true → fin s = false → i ∈ E s → ∃ s', (L s).setIfInBounds i true = L s' ∧ ok s' = true ∧ rk s' < rk s ∧ ∀ a w, S w → St s a w → wpOp P ops Q i (fun a' w' => S w' ∧ St s' a' w') a w)
    (hfi : ∀ s a w f, ok s = true → fin s = true → rk s ≤ f → S w → St s a w → wpAnyH P md ops Q S f (L s) a w) :
    ∀ n s a w f, rk s ≤ n → rk s ≤ f → ok s = true → S w → St s a w → wpAnyH P md ops Q S f (L s) a w := by
  intro n
  induction n with
  | zero =>
    intro s a w f hn hf hok hS hSt
    cases hfs : fin s with
    | true => exact hfi s a w f hok hfs hf hS hSt
    | false => have := (hrd s hok hfs).2.2; omega
  | succ n ih =>
    intro s a w f hn hf hok hS hSt
    cases hfs : fin s with
    | true => exact hfi s a w f hok hfs hf hS hSt
    | false =>
      obtain ⟨h1, h2, h3⟩ := hrd s hok hfs
      obtain ⟨f', rfl⟩ : ∃ f', f = f' + 1 := ⟨f - 1, by omega⟩
      refine ⟨fun h => absurd (h1 ▸ h) h2, fun i hi => ?_⟩
      rw [h1] at hi
      obtain ⟨s', e1, e2, e3, e4⟩ := hst s i hok hfs hi
      exact wpOp_mono (fun a' w' h => ⟨h.1, by rw [e1]; exact ih s' a' w' f' (by omega) (by omega) e2 h.1 h.2⟩) (e4 a w hS hSt)
end
end Go.Proofs.YtfhhnelffldggaaGreatDoor
