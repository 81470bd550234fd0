/-
  Lists of texts: in memory, read, copied, compared, sized, marked, come in.
-/
import Derived.Test.YtfdhcchakoldpaaPrt
import Derived.Laws.IdiomStrings
namespace Go.Proofs.Ytfdhcchakoldpaa.S
open Go.ChangeShapes Go.WideShapes Go.ChangeAt Go.RowKit Go.PlainAid
set_option linter.unusedVariables false

def strV (l : List ByteArray) : List Value := l.map Value.string
theorem strV_len (l : List ByteArray) : (strV l).length = l.length := List.length_map ..
theorem info9 : (Try.prog.info? 9).map (fun i => (i.zero, i.size, i.bytes)) = some (some (.string ⟨#[]⟩), 1, 16) := by kernel_rfl

/-- the byte of a figure -/
def fb (r : Nat) : UInt8 := UInt8.ofNat (48 + r)
theorem fb_nat {r : Nat} (h : r < 10) : (fb r).toNat = 48 + r := by
  unfold fb; rw [UInt8.toNat_ofNat']; omega
/-- the text of a mark -/
def mkF : Nat → Nat → List UInt8 → List UInt8
  | 0, _, acc => acc
  | f + 1, u, acc => if u = 0 then acc else mkF f (u / 10) (fb (u % 10) :: acc)
theorem mkF_zero (f : Nat) (acc : List UInt8) : mkF f 0 acc = acc := by cases f <;> simp [mkF]
theorem mkF_step {f u : Nat} (h : u ≠ 0) (acc : List UInt8) : mkF (f + 1) u acc = mkF f (u / 10) (fb (u % 10) :: acc) := by
  rw [mkF, if_neg h]
def mk (k : Nat) : ByteArray := ⟨(109 :: mkF 20 k []).toArray⟩
/-- n marks from k on -/
def marks (k : Nat) : Nat → List ByteArray
  | 0 => []
  | n + 1 => mk k :: marks (k + 1) n
theorem marks_len (n : Nat) : ∀ k, (marks k n).length = n := by
  induction n with
  | zero => intro k; rfl
  | succ n ih => intro k; simp [marks, ih]
theorem marks_at : ∀ (n k j : Nat), j < n → (marks k n)[j]? = some (mk (k + j))
  | n + 1, k, 0, _ => by simp [marks]
  | n + 1, k, j + 1, h => by
    rw [marks, List.getElem?_cons_succ, marks_at n (k + 1) j (by omega)]
    congr 2; omega

/-- a list whose first j places are marked -/
def mixed (l : List ByteArray) (k j : Nat) : List ByteArray := marks k j ++ l.drop j
theorem marks_snoc : ∀ (j k : Nat), marks k (j + 1) = marks k j ++ [mk (k + j)]
  | 0, k => rfl
  | j + 1, k => by
    rw [marks, marks_snoc j (k + 1), marks]
    simp only [List.cons_append]
    congr 4; omega
theorem mixed_len {l : List ByteArray} {k j : Nat} (h : j ≤ l.length) : (mixed l k j).length = l.length := by
  unfold mixed; rw [List.length_append, marks_len, List.length_drop]; omega
theorem mixed_set {l : List ByteArray} {k j : Nat} (h : j < l.length) : (mixed l k j).set j (mk (k + j)) = mixed l k (j + 1) := by
  unfold mixed
  rw [List.set_append_right _ _ (by rw [marks_len]; omega), marks_len, Nat.sub_self, List.drop_eq_getElem_cons h, List.set_cons_zero, marks_snoc]
  simp
theorem mixed_zero (l : List ByteArray) (k : Nat) : mixed l k 0 = l := rfl
theorem mixed_all (l : List ByteArray) (k : Nat) : mixed l k l.length = marks k l.length := by
  unfold mixed; simp

/-- what an owned list looks like, and its cells -/
theorem own_form {w : World} {B n : Nat} {v : Value} {l : List ByteArray} (h : w.ownsRow B 9 1 v n (strV l)) :
    ∃ a cap, v = .slice a n cap ∧ (0 < n → ∃ g, a = some ⟨g, 0, none⟩ ∧ v.ownBlock = some g ∧ ∀ j x, l[j]? = some x → w.cell? ⟨g, j, none⟩ = some (.string x) ∧ w.frozen? ⟨g, j, none⟩ = false) := by
  have h' := h
  have hl : l.length = n := by have := h.1; rw [strV_len] at this; omega
  rcases h.2 with ⟨rfl, e⟩ | ⟨g, cap, cur, rfl, hg, hh, hnc, hcp, hcs, htake⟩
  · exact ⟨none, 0, by rw [e], fun hp => by omega⟩
  · refine ⟨_, cap, rfl, fun _ => ⟨g, rfl, rfl, fun j x hj => ⟨?_, h'.frozenAt j⟩⟩⟩
    have hlt := (List.getElem?_eq_some_iff.1 hj).1
    have := h'.cellAt j (by omega)
    rw [this]
    simp [strV, hj]

theorem one_text (b : UInt8) (w : World) : (convert 22 9 (.slice (some ⟨w.heap.size, 0, none⟩) 1 1)).run Try.prog (w.alloc (.cells #[.int .u8 (b.toNat : Int)] 5)) = .ok (.string ⟨[b].toArray⟩) (w.alloc (.cells #[.int .u8 (b.toNat : Int)] 5)) :=
  run_convert_bytes_back (P := Try.prog) _ 22 9 5 ⟨w.heap.size, 0, none⟩ 1 [b] Try.underlying22 Try.underlying5 Try.underlying9 (fun j hj => by
    obtain rfl : j = 0 := by simpa using hj
    simp [Addr.add])
theorem cat_one (b : UInt8) (acc : List UInt8) : (⟨#[b]⟩ : ByteArray) ++ ⟨acc.toArray⟩ = ⟨(b :: acc).toArray⟩ := by
  apply ByteArray.ext
  simp
theorem acc_size (acc : List UInt8) : (ByteArray.mk acc.toArray).size = acc.length := by
  show acc.toArray.size = _
  exact List.size_toArray

/-- a place of an owned list is written -/
theorem set_strV {l : List ByteArray} {j : Nat} {x : ByteArray} : (strV l).set j (.string x) = strV (l.set j x) := by
  unfold strV; rw [List.map_set]

/-- a list of texts that is read, wherever it lies -/
def RdS (w : World) (a : Option Addr) (l : List ByteArray) : Prop := 0 < l.length → ∃ g off, a = some ⟨g, off, none⟩ ∧ ∀ j (h : j < l.length), w.cell? ⟨g, off + j, none⟩ = some (.string l[j])
theorem RdS.keep {w w' : World} {a : Option Addr} {l : List ByteArray} {B : Nat} (h : RdS w a l) (hb : Below B w w') (hB : w.heap.size ≤ B) : RdS w' a l := fun h0 => by
  obtain ⟨g, off, ha, hc⟩ := h h0
  refine ⟨g, off, ha, fun j hj => ?_⟩
  have h1 := hc j hj
  exact (hb.cell (p := ⟨g, off + j, none⟩) (Nat.lt_of_lt_of_le (World.block_lt_of_cell? w ⟨g, off + j, none⟩ h1) hB)).trans h1
theorem RdS.on {w w' : World} {a : Option Addr} {l : List ByteArray} (h : RdS w a l) (hb : Below w.heap.size w w') : RdS w' a l := h.keep hb (Nat.le_refl _)
theorem rdS_own {w : World} {B n c : Nat} {a : Option Addr} {l : List ByteArray} (h : w.ownsRow B 9 1 (.slice a n c) n (strV l)) : RdS w a l := fun h0 => by
  have hl : l.length = n := by have := h.1; rw [strV_len] at this; omega
  obtain ⟨a', cap, hv, hc⟩ := own_form h
  cases hv
  obtain ⟨g, rfl, _, hcell⟩ := hc (by omega)
  exact ⟨g, 0, rfl, fun j hj => by rw [Nat.zero_add]; exact (hcell j _ (List.getElem?_eq_getElem hj)).1⟩
/-- a block that is such a list, whole -/
def RowS (w : World) (g : Nat) (l : List ByteArray) : Prop := w.heap[g]? = some (.cells (strV l).toArray 9 (0, 0))
theorem RowS.lt {w : World} {g : Nat} {l : List ByteArray} (h : RowS w g l) : g < w.heap.size := row_lt h
theorem RowS.on {w w' : World} {g : Nat} {l : List ByteArray} (h : RowS w g l) (hb : Below w.heap.size w w') : RowS w' g l := row_after h hb (row_lt h)
theorem RowS.cell {w : World} {g : Nat} {l : List ByteArray} (h : RowS w g l) (j : Nat) (hj : j < l.length) : w.cell? ⟨g, j, none⟩ = some (.string l[j]) := by
  rw [cell_of_row w g j _ _ (0, 0) h]
  simp [strV, hj]
theorem RowS.free {w : World} {g : Nat} {l : List ByteArray} (h : RowS w g l) (j : Nat) : w.frozen? ⟨g, j, none⟩ = false := frozen_of_row w g j _ _ h
theorem RowS.rd {w : World} {g : Nat} {l : List ByteArray} (h : RowS w g l) : RdS w (some ⟨g, 0, none⟩) l := fun _ => ⟨g, 0, rfl, fun j hj => by rw [Nat.zero_add]; exact h.cell j hj⟩
theorem RowS.set {w : World} {g : Nat} {l : List ByteArray} (h : RowS w g l) (j : Nat) (s : ByteArray) : RowS (w.setCell ⟨g, j, none⟩ (.string s)) g (l.set j s) := by
  unfold RowS at h ⊢
  rw [heap_setCell_same w g j _ _ (.string s) h, ← set_strV]
  simp
theorem strV_zero (n : Nat) : madeCells #[.string ⟨#[]⟩] n = (strV (List.replicate n ⟨#[]⟩)).toArray := by
  apply Array.ext
  · simp [madeCells, strV]
  · intro j h1 h2
    simp [madeCells, strV, Nat.mod_one]
theorem makeS (n : Nat) (hn : n ≤ 1048576) (w : World) : (Instr.makeSlice 28 (.int .i64 n) (.int .i64 n)).run Try.prog w = .ok (.slice (some ⟨w.heap.size, 0, none⟩) n n) (w.alloc (.cells (strV (List.replicate n ⟨#[]⟩)).toArray 9)) := by
  obtain ⟨i0, hi, hz0, hz1, hz2⟩ := info_parts info9
  have h := run_make (P := Try.prog) w 28 9 i0 _ Try.underlying28 hi hz0 .i64 .i64 n n (by omega) (Int.le_refl _) (by rw [hz2]; omega) (by omega)
  rw [hz1, Int.toNat_natCast, show (Value.string ⟨#[]⟩).cells = #[.string ⟨#[]⟩] from rfl, Nat.mul_one, strV_zero] at h
  exact h
/-- the first j copied, the rest still empty -/
def uptoS (l : List ByteArray) (n j : Nat) : List ByteArray := l.take j ++ List.replicate (n - j) ⟨#[]⟩
theorem uptoS_zero (l : List ByteArray) (n : Nat) : uptoS l n 0 = List.replicate n ⟨#[]⟩ := by simp [uptoS]
theorem uptoS_len {l : List ByteArray} {n j : Nat} (hl : l.length = n) (h : j ≤ n) : (uptoS l n j).length = n := by simp [uptoS]; omega
theorem uptoS_all {l : List ByteArray} {n : Nat} (hl : l.length = n) : uptoS l n n = l := by simp [uptoS]; exact List.take_of_length_le (by omega)
theorem uptoS_set {l : List ByteArray} {n j : Nat} (hl : l.length = n) (h : j < n) (hj : j < l.length) : (uptoS l n j).set j l[j] = uptoS l n (j + 1) := by
  have h1 : (l.take j).length = j := by simp; omega
  unfold uptoS
  obtain ⟨m, hm⟩ : ∃ m, n - j = m + 1 := ⟨n - j - 1, by omega⟩
  rw [hm, show n - (j + 1) = m by omega, List.replicate_succ, List.set_append_right _ _ (by omega), h1, Nat.sub_self, List.set_cons_zero, List.take_succ_eq_append_getElem hj, List.append_assoc]
  rfl
set_option maxRecDepth 100000 in
set_option maxHeartbeats 1000000 in
theorem toSs (a : Option Addr) (l : List ByteArray) (n cap : Nat) (hl : l.length = n) (hn : n ≤ 1048576) (w : World) (hr : RdS w a l) :
    Calls Try.prog 122 #[.slice a n cap] w fun e w' => e = .returned (.slice (some ⟨w.heap.size, 0, none⟩) n n) ∧ RowS w' w.heap.size l ∧ Below w.heap.size w w' := by
  have HL : Hid (l.length = n) := hl
  have HW0 : Hid (Below w.heap.size w (w.alloc (.cells (strV (List.replicate n ⟨#[]⟩)).toArray 9))) := (Below.refl w.heap.size w).alloc (Nat.le_refl _) _
  have HROW0 : Hid (RowS (w.alloc (.cells (strV (List.replicate n ⟨#[]⟩)).toArray 9)) w.heap.size (uptoS l n 0)) := by rw [uptoS_zero]; exact heap_new w _
  have hmk := makeS n hn
  clear hl
  by_cases hp : 0 < n
  · obtain ⟨g, off, rfl, hc⟩ := hr (by have := HL.out; omega)
    have HC : Hid (∀ j (h : j < l.length), w.cell? ⟨g, off + j, none⟩ = some (.string l[j])) := hc
    have hgl : g < w.heap.size := World.block_lt_of_cell? w ⟨g, off + 0, none⟩ (hc 0 (by have := HL.out; omega))
    clear hr hc
    go_enter Try.func122, Try.ntmps122
    go_wp2
    go_loopg [4] n (fun gk i wr => ∃ j : Nat, j + gk = n ∧ i = .int .i64 j ∧ Hid (RowS wr w.heap.size (uptoS l n j)) ∧ Hid (Below w.heap.size w wr))
    case atStart => exact ⟨0, by omega, rfl, HROW0, HW0⟩
    case round =>
      clear HROW0 HW0
      obtain ⟨j, hj, rfl, HROW, HW⟩ := hrel
      by_cases hlt : j < n
      · have hjl : j < l.length := by have := HL.out; omega
        have c1 := (HW.out.cell (p := ⟨g, off + j, none⟩) hgl).trans (HC.out j hjl)
        obtain ⟨s, hs⟩ : ∃ s, l[j] = s := ⟨_, rfl⟩
        rw [hs] at c1
        have HF : Hid (s = l[j]) := hs.symm
        clear hs
        have hu : j < (uptoS l n j).length := by rw [uptoS_len HL.out (by omega)]; exact hlt
        have d0 := HROW.out.cell j hu
        have d1 := HROW.out.free j
        have HR2 : Hid (RowS (wr.setCell ⟨w.heap.size, j, none⟩ (.string s)) w.heap.size (uptoS l n (j + 1))) := by
          have := HROW.out.set j s
          rw [HF.out, uptoS_set HL.out hlt hjl] at this
          rw [HF.out]
          exact this
        have HW2 : Hid (Below w.heap.size w (wr.setCell ⟨w.heap.size, j, none⟩ (.string s))) := HW.out.setCell (Nat.le_refl _) _
        generalize (uptoS l n j)[j] = x at d0
        clear HROW HW hu
        go_wp2
        go_roundg (gk - 1)
        case measure => omega
        case rel => exact ⟨j + 1, by omega, by go_num, HR2, HW2⟩
      · obtain rfl : j = n := by omega
        have HROW' : Hid (RowS wr w.heap.size l) := by have := HROW.out; rw [uptoS_all HL.out] at this; exact this
        clear HROW
        go_wp2
        go_ret
        exact ⟨rfl, HROW'.out, HW.out⟩
  · obtain rfl : n = 0 := by omega
    have HROW' : Hid (RowS (w.alloc (.cells (strV (List.replicate 0 ⟨#[]⟩)).toArray 9)) w.heap.size l) := by have := HROW0.out; rw [uptoS_all HL.out] at this; exact this
    clear hr hp HROW0
    have hmk0 : ∀ w : World, (Instr.makeSlice 28 (.int .i64 0) (.int .i64 0)).run Try.prog w = .ok (.slice (some ⟨w.heap.size, 0, none⟩) 0 0) (w.alloc (.cells (strV (List.replicate 0 ⟨#[]⟩)).toArray 9)) := hmk
    clear hmk
    go_enter Try.func122, Try.ntmps122
    go_wp2
    go_rounds 1
    go_ret
    exact ⟨rfl, HROW'.out, HW0.out⟩
set_option maxRecDepth 100000 in
set_option maxHeartbeats 1000000 in
theorem eqSs (a b : Option Addr) (l : List ByteArray) (n ca cb : Nat) (hl : l.length = n) (hn : n ≤ 1048576) (w : World) (ha : RdS w a l) (hb : RdS w b l) :
    Calls Try.prog 130 #[.slice a n ca, .slice b n cb] w fun e w' => e = .returned (.bool true) ∧ Below w.heap.size w w' := by
  have HL : Hid (l.length = n) := hl
  clear hl
  by_cases hp : 0 < n
  · obtain ⟨ga, oa, rfl, hca⟩ := ha (by have := HL.out; omega)
    obtain ⟨gb, ob, rfl, hcb⟩ := hb (by have := HL.out; omega)
    have HA : Hid (∀ j (h : j < l.length), w.cell? ⟨ga, oa + j, none⟩ = some (.string l[j])) := hca
    have HB : Hid (∀ j (h : j < l.length), w.cell? ⟨gb, ob + j, none⟩ = some (.string l[j])) := hcb
    clear ha hb hca hcb
    go_enter Try.func130, Try.ntmps130
    go_wp2
    go_loopg [5] n (fun gk i wr => ∃ j q : Nat, j + gk = n ∧ i = .int .i64 j ∧ wr = w.drewN q)
    case atStart => exact ⟨0, 0, by omega, rfl, rfl⟩
    case round =>
      obtain ⟨j, q, hj, rfl, rfl⟩ := hrel
      by_cases hlt : j < n
      · have hjl : j < l.length := by have := HL.out; omega
        have c1 := HA.out j hjl
        have c2 := HB.out j hjl
        generalize l[j] = x at c1 c2
        clear hjl
        have i0 : (0 : Int) ≤ (j : Int) := by omega
        have i1 : (j : Int) < (n : Int) := by omega
        go_wp2
        go_quiet (fail)
        go_wp2
        go_roundg (gk - 1)
        case measure => omega
        case rel => exact ⟨j + 1, q + nq, by omega, by go_num, rfl⟩
      · go_wp2
        go_ret
        exact ⟨rfl, bel_drewN (Below.refl _ _) _⟩
  · obtain rfl : n = 0 := by omega
    clear ha hb
    go_enter Try.func130, Try.ntmps130
    go_wp2
    go_rounds 1
    go_ret
    exact ⟨rfl, Below.refl _ _⟩
/-- how many bytes -/
def bytesS : List ByteArray → Nat
  | [] => 0
  | s :: t => s.size + bytesS t
theorem bytesS_take {l : List ByteArray} {j : Nat} (h : j < l.length) : bytesS (l.take (j + 1)) = bytesS (l.take j) + (l[j]).size := by
  have hs : ∀ x y : List ByteArray, bytesS (x ++ y) = bytesS x + bytesS y := fun x => by
    induction x with
    | nil => intro y; simp [bytesS]
    | cons s t ih => intro y; simp [bytesS, ih]; omega
  rw [List.take_succ_eq_append_getElem h, hs]
  simp [bytesS]
theorem bytesS_le : ∀ (l : List ByteArray) (j : Nat), bytesS (l.take j) ≤ bytesS l
  | [], j => by simp [bytesS]
  | s :: t, 0 => by simp [bytesS]
  | s :: t, j + 1 => by simp only [List.take_succ_cons, bytesS]; have := bytesS_le t j; omega
theorem size_le_bytes {l : List ByteArray} {j : Nat} (h : j < l.length) : (l[j]).size ≤ bytesS l := by
  have h1 := bytesS_take h
  have h2 := bytesS_le l (j + 1)
  omega
set_option maxRecDepth 100000 in
set_option maxHeartbeats 1000000 in
theorem szSs (a : Option Addr) (l : List ByteArray) (n cap : Nat) (m r : Int) (m0 : 0 ≤ m) (m1 : m ≤ 1048576) (hl : l.length = n) (hn : n ≤ 9223372036854775807) (hz : ∀ j (h : j < l.length), (l[j]).size ≤ 9223372036854775807) (hr : r = if (n : Int) + bytesS l ≤ m then m - n - bytesS l else -1) (w : World) (hrd : RdS w a l) :
    Calls Try.prog 115 #[.slice a n cap, .int .i64 m] w fun e w' => e = .returned (.int .i64 r) ∧ w' = w := by
  have HL : Hid (l.length = n) := hl
  have HZ : Hid (∀ j (h : j < l.length), (l[j]).size ≤ 9223372036854775807) := hz
  have HRr : Hid (r = if (n : Int) + bytesS l ≤ m then m - n - bytesS l else -1) := hr
  have hwm : IntKind.i64.wrap (m - (n : Int)) = m - (n : Int) := wrap_in (by omega) (by omega)
  clear hz hr hl
  by_cases h1 : (n : Int) ≤ m
  · have h0 : ¬ m - (n : Int) < 0 := by omega
    by_cases hp : 0 < n
    · obtain ⟨g, off, rfl, hc⟩ := hrd (by have := HL.out; omega)
      have HC : Hid (∀ j (h : j < l.length), w.cell? ⟨g, off + j, none⟩ = some (.string l[j])) := hc
      clear hrd hc
      go_enter Try.func115, Try.ntmps115
      go_wp2
      go_loopg [1, 5] n (fun gk lv i wr => ∃ (j : Nat) (x : Int), j + gk = n ∧ lv = .int .i64 x ∧ i = .int .i64 j ∧ 0 ≤ x ∧ x ≤ 1048576 ∧ Hid (x = m - n - bytesS (l.take j)) ∧ wr = w)
      case atStart => exact ⟨0, m - n, by omega, rfl, rfl, by omega, by omega, by show _ = _; simp [bytesS], rfl⟩
      case round =>
        clear hwm h0
        obtain ⟨j, x, hj, rfl, rfl, x0, x1, HX, rfl⟩ := hrel
        by_cases hlt : j < n
        · have hjl : j < l.length := by have := HL.out; omega
          have c1 := HC.out j hjl
          have hzj := HZ.out j hjl
          have HT : Hid (bytesS (l.take (j + 1)) = bytesS (l.take j) + (l[j]).size) := bytesS_take hjl
          have HLE : Hid (bytesS (l.take (j + 1)) ≤ bytesS l) := bytesS_le l (j + 1)
          obtain ⟨s, hs⟩ : ∃ s, l[j] = s := ⟨_, rfl⟩
          rw [hs] at c1 hzj
          have HT2 : Hid (bytesS (l.take (j + 1)) = bytesS (l.take j) + s.size) := by have := HT.out; rw [hs] at this; exact this
          clear HT hs hjl
          have hws : IntKind.i64.wrap (x - (s.size : Int)) = x - (s.size : Int) := wrap_in (by omega) (by omega)
          by_cases hneg : x - (s.size : Int) < 0
          · have HE : Hid (r = -1) := by
              have h2 := HRr.out
              rw [if_neg (by have := HX.out; have := HT2.out; have := HLE.out; omega)] at h2
              exact h2
            clear HX HT2 HLE
            go_wp2
            go_ret
            exact ⟨by rw [HE.out]; rfl, rfl⟩
          · have HX' : Hid (x - (s.size : Int) = m - n - bytesS (l.take (j + 1))) := by show _ = _; have := HX.out; have := HT2.out; omega
            clear HX HT2 HLE
            go_wp2
            go_roundg (gk - 1)
            case measure => omega
            case rel => exact ⟨j + 1, x - s.size, by omega, rfl, by go_num, by omega, by omega, HX', rfl⟩
        · have HE : Hid (x = r) := by
            show x = r
            have h2 := HRr.out
            have h3 := HX.out
            rw [List.take_of_length_le (by have := HL.out; omega)] at h3
            rw [if_pos (by omega)] at h2
            omega
          clear HX
          go_wp2
          go_ret
          exact ⟨by rw [HE.out]; rfl, rfl⟩
    · obtain rfl : n = 0 := by omega
      have HE : Hid (r = m - (0 : Nat)) := by
        show r = _
        have h2 := HRr.out
        obtain rfl : l = [] := List.length_eq_zero_iff.1 HL.out
        rw [if_pos (by simp [bytesS]; omega)] at h2
        simp [bytesS] at h2
        omega
      clear hrd hp HRr
      have HE2 : Hid (r = m) := by have := HE.out; show r = m; omega
      clear HE
      go_enter Try.func115, Try.ntmps115
      go_wp2
      go_rounds 1
      go_ret
      exact ⟨by rw [HE2.out]; rfl, rfl⟩
  · have h0 : m - (n : Int) < 0 := by omega
    have HE : Hid (r = -1) := by
      have h2 := HRr.out
      rw [if_neg (by omega)] at h2
      exact h2
    clear hrd
    go_enter Try.func115, Try.ntmps115
    go_wp2
    go_ret
    exact ⟨by rw [HE.out]; rfl, rfl⟩
theorem cells9 : Try.prog.cellsOf 9 = 1 := by kernel_rfl
set_option maxRecDepth 100000 in
theorem openS {H : Type} {enc : TypeId × Value → H} {W : World} {held : Bool} {v : Value} {x : DataW H × List MemPlace} {bs fuel : Nat}
    (hf : DataW.trod enc Try.prog W bs (fun _ => true) held fuel 28 [v] = some x) :
    ∃ a len cap, ∃ l : List ByteArray, v = .slice a len cap ∧ l.length = len ∧ len ≤ cap ∧ len ≤ 9223372036854775807 ∧ RdS W a l ∧ ∀ j (h : j < l.length), (l[j]).size ≤ 9223372036854775807 := by
  rcases Go.Deep.open_slice Try.underlying28 hf with ⟨hcs, _⟩ | ⟨ad, l, c, m, k, D, Pl, hcs, _, hl, hm, hmm, _, hcell⟩
  · simp at hcs
    subst hcs
    exact ⟨none, 0, 0, [], rfl, rfl, Nat.le_refl _, by omega, fun h => by simp at h, fun j h => by simp at h⟩
  · simp at hcs
    subst hcs
    simp at hmm
    subst hmm
    unfold maxLen at hm
    have each : ∀ i, i < l → ∃ s : ByteArray, W.cell? (ad.add i) = some (.string s) ∧ s.size ≤ 9223372036854775807 := by
      intro i hi
      obtain ⟨cs', h1, h2⟩ := hcell i (by omega)
      rw [cells9, Nat.mul_one] at h1
      obtain ⟨_, hlen, hc⟩ := World.cells?_some h1
      obtain ⟨s, rfl, _, hs⟩ := DataW.trod_string Try.underlying9 h2
      have e0 := hc 0 (by omega)
      rw [Go.Deep.add_add] at e0
      unfold maxLen at hs
      exact ⟨s, by simpa using e0, by omega⟩
    obtain ⟨q, hq⟩ := Go.Deep.choose_lt each
    refine ⟨some ad, l, _, (List.range l).map q, rfl, by simp, hl, by omega, fun h0 => ?_, fun j hj => ?_⟩
    · have h0' : 0 < l := by simpa using h0
      obtain ⟨b, off, spot⟩ := ad
      have hspot : spot = none := by simpa [Addr.add] using World.cell?_spot (hq 0 (by omega)).1
      subst hspot
      refine ⟨b, off, rfl, fun j hj => ?_⟩
      have hj' : j < l := by simpa using hj
      obtain ⟨h0, _⟩ := hq j hj'
      rw [add_at] at h0
      simp only [List.getElem_map, List.getElem_range]
      exact h0
    · have hj' : j < l := by simpa using hj
      simp only [List.getElem_map, List.getElem_range]
      exact (hq j hj').2
end Go.Proofs.Ytfdhcchakoldpaa.S
