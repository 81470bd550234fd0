/-
  Menus of the program: chosen, orderOf, entered.
-/
import Derived.Test.YtjaimcmnndejgaaMnIc
namespace Go.Proofs.Ytjaimcmnndejgaa
open Go.RowKit Go.PlainAid
set_option linter.unusedVariables false
set_option linter.unusedSimpArgs false

theorem storeB_run {w : World} {g i : Nat} {z : Bool} {cs : Array Value} {T : TypeId} (hg : w.heap[g]? = some (.cells cs T)) (hi : i < cs.size) : (Instr.storeAt 4 (.pointer (some ⟨g, i, none⟩)) (.bool z)).run Try.prog w = .ok () (w.setCell ⟨g, i, none⟩ (.bool z)) := by
  have k1 : w.cell? ⟨g, i, none⟩ = some cs[i] := by simp [World.cell?, hg, hi]
  have k2 : w.frozen? ⟨g, i, none⟩ = false := by simp [World.frozen?, hg]
  simp [go_sem, Instr.storeAt, k1, k2]
/-- one flag stored into a row -/
theorem listStoreB {ops : Array Oper} {rest : List Oper} {o : Oper} {a : Act} {Q : Exit → Act → World → Prop} {w : World} (hgd : o.guard = none) (hd : o.dst = none) (x y : Operand) (ty : TypeId) (ho : o.op = .store ty x y) (hty : ty = 4)
    (g i : Nat) (z : Bool) (hx : a.eval x = .pointer (some ⟨g, i, none⟩)) (hy : a.eval y = .bool z)
    {cs : Array Value} {T : TypeId} (hg : w.heap[g]? = some (.cells cs T)) (hi : i < cs.size)
    (h : ∀ w' : World, PutM w w' g (.cells (cs.setIfInBounds i (.bool z)) T) → wpList Try.prog ops Q rest a w') : wpList Try.prog ops Q (o :: rest) a w := by
  subst hty
  refine wpList_plain hgd fun _ hK => ?_
  unfold Oper.wp
  simp only [execOp, ho, hx, hy, Sem.run_bind, storeB_run hg hi, Result.andThen, Sem.run_pure]
  exact hK _ _ (by rw [hd]; exact h _ (putM_set hg))
/-- no keys lead to a bolus with numbers -/
def goodM (m : Mn) : Bool := !m.b || (decide (m.n = 0) && decide (m.d = 0))
theorem good_b {m : Mn} (h : goodM m = true) (hb : m.b = true) : m.n = 0 ∧ m.d = 0 := by
  unfold goodM at h
  rw [hb] at h
  simpa using h
theorem top_new {m : Mn} (h : okM m = true) (h1 : m.a = 1) : m = newM := by
  obtain ⟨a, b, n, d, s⟩ := m
  obtain ⟨h2, h3, h4, h5⟩ := ((okM_iff _).1 h).2.2 h1
  dsimp only at h1 h2 h3 h4 h5
  subst h1 h2 h3 h4 h5
  rfl
theorem topM_good {m : Mn} (h : goodM m = true) (key : Int) : goodM (topM m key).m = true := by
  unfold topM noP
  repeat' split
  all_goals first | exact h | rfl
theorem endM_good (m : Mn) : goodM (endM m).m = true := by
  unfold endM noP
  repeat' split
  all_goals rfl
def SafM (m : Mn) : Prop := goodM m = true ∧ (m.a = 2 ∨ m.a = 3 → m.b = false)
theorem pressM_good {m : Mn} (hk : okM m = true) (h : SafM m) (key : Int) : SafM (pressM m key).m := by
  have h2 := h.2
  unfold pressM
  rw [if_neg (by rw [hk]; decide)]
  by_cases h1 : m.a = 1
  · rw [if_pos h1, top_new hk h1]
    unfold topM noP
    repeat' split
    all_goals exact And.intro rfl (by decide)
  rw [if_neg h1]
  by_cases h3 : 48 ≤ key ∧ key ≤ 57
  · rw [if_pos h3]
    split
    · exact And.intro h.1 h2
    · exact h
  rw [if_neg h3]
  split
  · exact And.intro rfl (by decide)
  split
  · exact h
  by_cases h4 : m.a = 2
  · rw [if_pos h4]
    have hb := h2 (Or.inl h4)
    refine And.intro ?_ (fun _ => hb)
    unfold goodM noP
    dsimp only
    rw [hb]
    rfl
  rw [if_neg h4]
  by_cases h5 : m.a = 3
  · rw [if_pos h5]
    have hb := h2 (Or.inr h5)
    refine And.intro ?_ (fun _ => hb)
    unfold goodM noP
    dsimp only
    rw [hb]
    rfl
  rw [if_neg h5]
  refine And.intro (endM_good m) ?_
  have : (endM m).m = newM := by
    unfold endM noP
    repeat' split
    all_goals rfl
  rw [this]
  decide
/-- what keys lead to: right, and no bolus with numbers -/
def GdM (m : Mn) : Prop := okM m = true ∧ SafM m
theorem GdM.new : GdM newM := ⟨newM_ok, And.intro rfl (by decide)⟩
theorem GdM.press {m : Mn} (h : GdM m) (key : Int) : GdM (pressM m key).m := ⟨pressM_ok h.1 key, pressM_good h.1 h.2 key⟩
theorem GdM.all : ∀ (k : List UInt8) {m : Mn}, GdM m → GdM (allM m k).1
  | [], _, h => h
  | x :: k, _, h => GdM.all k (h.press _)
set_option maxRecDepth 100000 in
set_option maxHeartbeats 4000000 in
theorem chosenI (key : Int) (r : Pr) (hr : topM newM key = r) (w : World) : Calls Try.prog 49 #[mnV newM, .int .i32 key] w fun e w' => e = .returned (.tuple #[mnV r.m, ordV r.k r.n r.d r.v, .bool r.t]) ∧ Below w.heap.size w w' := by
  obtain ⟨h1, h2, h3, h4, h5⟩ := box3m w (.cells #[.int .i64 1, .bool false, .int .i64 0, .int .i64 0, .string ⟨#[]⟩] 26) (.cells #[.int .i64 0, .bool false, .int .i64 0, .int .i64 0, .string ⟨#[]⟩] 26) (.cells #[.int .i64 0, .int .i64 0, .int .i64 0, .int .i64 0] 34)
  have HP0 : Hid (_ = _) := h1
  have HZ0 : Hid (_ = _) := h2
  have HO0 : Hid (_ = _) := h3
  have HB0 : Hid (Below _ _ _) := h4
  have p0 := box5_cells h1
  clear h1 h2 h3 h4 h5
  unfold mnV ordV newM
  dsimp only
  have HR : Hid (topM newM key = r) := hr
  clear hr
  go_enter Try.func49, Try.ntmps49
  by_cases k98 : key = 98
  · obtain rfl : noP ⟨2, false, 0, 0, []⟩ = r := by rw [← HR.out]; unfold topM; simp [k98]
    clear HR
    subst k98
    (try dsimp only [noP, newM])
    go_upto_region 4 with fail
    go_wp2_with (refine listStoreI rfl rfl _ _ _ rfl rfl w.heap.size 0 2 rfl rfl HP0.out (by simp) ?_)
    intro w1 hput
    have HB1 : Hid (Below w.heap.size w w1) := hput.2.2.2 _ _ (Nat.le_refl _) HB0.out
    have HP1 : Hid (w1.heap[w.heap.size]? = some (.cells #[.int .i64 2, .bool false, .int .i64 0, .int .i64 0, .string ⟨#[]⟩] 26)) := hput.1
    have HZ1 : Hid (w1.heap[w.heap.size + 1]? = some (.cells #[.int .i64 0, .bool false, .int .i64 0, .int .i64 0, .string ⟨#[]⟩] 26)) := hput.far HZ0.out (by omega)
    have HO1 : Hid (w1.heap[w.heap.size + 2]? = some (.cells #[.int .i64 0, .int .i64 0, .int .i64 0, .int .i64 0] 34)) := hput.far HO0.out (by omega)
    have p1 := box5_cells HP1.out
    clear hput HB0 HP0 HZ0 HO0 p0
    go_upto_region 15 with fail
    go_wp2_with (refine listStoreM rfl rfl _ _ _ rfl rfl (w.heap.size + 1) (2) (false) (0) (0) (⟨#[]⟩) rfl rfl HZ1.out ?_)
    intro w8 hput
    have HB8 : Hid (Below w.heap.size w w8) := hput.2.2.2 _ _ (Nat.le_succ _) HB1.out
    have HO8 : Hid (w8.heap[w.heap.size + 2]? = some (.cells #[.int .i64 0, .int .i64 0, .int .i64 0, .int .i64 0] 34)) := hput.far HO1.out (by omega)
    have HZ8 : Hid (w8.heap[w.heap.size + 1]? = some (.cells #[.int .i64 2, .bool false, .int .i64 0, .int .i64 0, .string ⟨#[]⟩] 26)) := hput.1
    clear hput
    go_wp2_with (refine listStoreO rfl rfl _ _ _ rfl rfl (w.heap.size + 2) (0) (0) (0) (0) rfl rfl HO8.out ?_)
    intro w9 hput
    have HB9 : Hid (Below w.heap.size w w9) := hput.2.2.2 _ _ (by omega) HB8.out
    have zz := box5_cells (hput.far HZ8.out (by omega))
    have yy := box4_cells hput.1
    clear hput HB8 HO8 HZ8
    go_wp2
    refine bodyPost_ret (v := .tuple #[.agg #[.int .i64 2, .bool false, .int .i64 0, .int .i64 0, .string ⟨#[]⟩], .agg #[.int .i64 0, .int .i64 0, .int .i64 0, .int .i64 0], .bool false]) (by simp only [results, Try.results49]; simp [go_sem, zz, yy]) rfl ⟨rfl, HB9.out⟩
  have q98 : (key == 98) = false := by simpa using k98
  by_cases k111 : key = 111
  · obtain rfl : noP ⟨4, true, 0, 0, []⟩ = r := by rw [← HR.out]; unfold topM; simp [k111]
    clear HR
    subst k111
    (try dsimp only [noP, newM])
    go_upto_region 6 with fail
    go_wp2_with (refine listStoreI rfl rfl _ _ _ rfl rfl w.heap.size 0 4 rfl rfl HP0.out (by simp) ?_)
    intro w1 hput
    have HB1 : Hid (Below w.heap.size w w1) := hput.2.2.2 _ _ (Nat.le_refl _) HB0.out
    have HP1 : Hid (w1.heap[w.heap.size]? = some (.cells #[.int .i64 4, .bool false, .int .i64 0, .int .i64 0, .string ⟨#[]⟩] 26)) := hput.1
    have HZ1 : Hid (w1.heap[w.heap.size + 1]? = some (.cells #[.int .i64 0, .bool false, .int .i64 0, .int .i64 0, .string ⟨#[]⟩] 26)) := hput.far HZ0.out (by omega)
    have HO1 : Hid (w1.heap[w.heap.size + 2]? = some (.cells #[.int .i64 0, .int .i64 0, .int .i64 0, .int .i64 0] 34)) := hput.far HO0.out (by omega)
    have p1 := box5_cells HP1.out
    clear hput HB0 HP0 HZ0 HO0 p0
    go_wp2_with (refine listStoreB rfl rfl _ _ _ rfl rfl w.heap.size 1 true rfl rfl HP1.out (by simp) ?_)
    intro w2 hput
    have HB2 : Hid (Below w.heap.size w w2) := hput.2.2.2 _ _ (Nat.le_refl _) HB1.out
    have HP2 : Hid (w2.heap[w.heap.size]? = some (.cells #[.int .i64 4, .bool true, .int .i64 0, .int .i64 0, .string ⟨#[]⟩] 26)) := hput.1
    have HZ2 : Hid (w2.heap[w.heap.size + 1]? = some (.cells #[.int .i64 0, .bool false, .int .i64 0, .int .i64 0, .string ⟨#[]⟩] 26)) := hput.far HZ1.out (by omega)
    have HO2 : Hid (w2.heap[w.heap.size + 2]? = some (.cells #[.int .i64 0, .int .i64 0, .int .i64 0, .int .i64 0] 34)) := hput.far HO1.out (by omega)
    have p2 := box5_cells HP2.out
    clear hput HB1 HP1 HZ1 HO1 p1
    go_upto_region 15 with fail
    go_wp2_with (refine listStoreM rfl rfl _ _ _ rfl rfl (w.heap.size + 1) (4) (true) (0) (0) (⟨#[]⟩) rfl rfl HZ2.out ?_)
    intro w8 hput
    have HB8 : Hid (Below w.heap.size w w8) := hput.2.2.2 _ _ (Nat.le_succ _) HB2.out
    have HO8 : Hid (w8.heap[w.heap.size + 2]? = some (.cells #[.int .i64 0, .int .i64 0, .int .i64 0, .int .i64 0] 34)) := hput.far HO2.out (by omega)
    have HZ8 : Hid (w8.heap[w.heap.size + 1]? = some (.cells #[.int .i64 4, .bool true, .int .i64 0, .int .i64 0, .string ⟨#[]⟩] 26)) := hput.1
    clear hput
    go_wp2_with (refine listStoreO rfl rfl _ _ _ rfl rfl (w.heap.size + 2) (0) (0) (0) (0) rfl rfl HO8.out ?_)
    intro w9 hput
    have HB9 : Hid (Below w.heap.size w w9) := hput.2.2.2 _ _ (by omega) HB8.out
    have zz := box5_cells (hput.far HZ8.out (by omega))
    have yy := box4_cells hput.1
    clear hput HB8 HO8 HZ8
    go_wp2
    refine bodyPost_ret (v := .tuple #[.agg #[.int .i64 4, .bool true, .int .i64 0, .int .i64 0, .string ⟨#[]⟩], .agg #[.int .i64 0, .int .i64 0, .int .i64 0, .int .i64 0], .bool false]) (by simp only [results, Try.results49]; simp [go_sem, zz, yy]) rfl ⟨rfl, HB9.out⟩
  have q111 : (key == 111) = false := by simpa using k111
  by_cases k112 : key = 112
  · obtain rfl : ⟨newM, 3, 0, 0, 0, true⟩ = r := by rw [← HR.out]; unfold topM; simp [k112]
    clear HR
    subst k112
    (try dsimp only [noP, newM])
    go_upto_region 15 with fail
    go_wp2_with (refine listStoreM rfl rfl _ _ _ rfl rfl (w.heap.size + 1) (1) (false) (0) (0) (⟨#[]⟩) rfl rfl HZ0.out ?_)
    intro w8 hput
    have HB8 : Hid (Below w.heap.size w w8) := hput.2.2.2 _ _ (Nat.le_succ _) HB0.out
    have HO8 : Hid (w8.heap[w.heap.size + 2]? = some (.cells #[.int .i64 0, .int .i64 0, .int .i64 0, .int .i64 0] 34)) := hput.far HO0.out (by omega)
    have HZ8 : Hid (w8.heap[w.heap.size + 1]? = some (.cells #[.int .i64 1, .bool false, .int .i64 0, .int .i64 0, .string ⟨#[]⟩] 26)) := hput.1
    clear hput
    go_wp2_with (refine listStoreO rfl rfl _ _ _ rfl rfl (w.heap.size + 2) (3) (0) (0) (0) rfl rfl HO8.out ?_)
    intro w9 hput
    have HB9 : Hid (Below w.heap.size w w9) := hput.2.2.2 _ _ (by omega) HB8.out
    have zz := box5_cells (hput.far HZ8.out (by omega))
    have yy := box4_cells hput.1
    clear hput HB8 HO8 HZ8
    go_wp2
    refine bodyPost_ret (v := .tuple #[.agg #[.int .i64 1, .bool false, .int .i64 0, .int .i64 0, .string ⟨#[]⟩], .agg #[.int .i64 3, .int .i64 0, .int .i64 0, .int .i64 0], .bool true]) (by simp only [results, Try.results49]; simp [go_sem, zz, yy]) rfl ⟨rfl, HB9.out⟩
  have q112 : (key == 112) = false := by simpa using k112
  by_cases k103 : key = 103
  · obtain rfl : ⟨newM, 4, 0, 0, 0, true⟩ = r := by rw [← HR.out]; unfold topM; simp [k103]
    clear HR
    subst k103
    (try dsimp only [noP, newM])
    go_upto_region 15 with fail
    go_wp2_with (refine listStoreM rfl rfl _ _ _ rfl rfl (w.heap.size + 1) (1) (false) (0) (0) (⟨#[]⟩) rfl rfl HZ0.out ?_)
    intro w8 hput
    have HB8 : Hid (Below w.heap.size w w8) := hput.2.2.2 _ _ (Nat.le_succ _) HB0.out
    have HO8 : Hid (w8.heap[w.heap.size + 2]? = some (.cells #[.int .i64 0, .int .i64 0, .int .i64 0, .int .i64 0] 34)) := hput.far HO0.out (by omega)
    have HZ8 : Hid (w8.heap[w.heap.size + 1]? = some (.cells #[.int .i64 1, .bool false, .int .i64 0, .int .i64 0, .string ⟨#[]⟩] 26)) := hput.1
    clear hput
    go_wp2_with (refine listStoreO rfl rfl _ _ _ rfl rfl (w.heap.size + 2) (4) (0) (0) (0) rfl rfl HO8.out ?_)
    intro w9 hput
    have HB9 : Hid (Below w.heap.size w w9) := hput.2.2.2 _ _ (by omega) HB8.out
    have zz := box5_cells (hput.far HZ8.out (by omega))
    have yy := box4_cells hput.1
    clear hput HB8 HO8 HZ8
    go_wp2
    refine bodyPost_ret (v := .tuple #[.agg #[.int .i64 1, .bool false, .int .i64 0, .int .i64 0, .string ⟨#[]⟩], .agg #[.int .i64 4, .int .i64 0, .int .i64 0, .int .i64 0], .bool true]) (by simp only [results, Try.results49]; simp [go_sem, zz, yy]) rfl ⟨rfl, HB9.out⟩
  have q103 : (key == 103) = false := by simpa using k103
  by_cases k115 : key = 115
  · obtain rfl : ⟨newM, 5, 0, 0, 0, true⟩ = r := by rw [← HR.out]; unfold topM; simp [k115]
    clear HR
    subst k115
    (try dsimp only [noP, newM])
    go_upto_region 15 with fail
    go_wp2_with (refine listStoreM rfl rfl _ _ _ rfl rfl (w.heap.size + 1) (1) (false) (0) (0) (⟨#[]⟩) rfl rfl HZ0.out ?_)
    intro w8 hput
    have HB8 : Hid (Below w.heap.size w w8) := hput.2.2.2 _ _ (Nat.le_succ _) HB0.out
    have HO8 : Hid (w8.heap[w.heap.size + 2]? = some (.cells #[.int .i64 0, .int .i64 0, .int .i64 0, .int .i64 0] 34)) := hput.far HO0.out (by omega)
    have HZ8 : Hid (w8.heap[w.heap.size + 1]? = some (.cells #[.int .i64 1, .bool false, .int .i64 0, .int .i64 0, .string ⟨#[]⟩] 26)) := hput.1
    clear hput
    go_wp2_with (refine listStoreO rfl rfl _ _ _ rfl rfl (w.heap.size + 2) (5) (0) (0) (0) rfl rfl HO8.out ?_)
    intro w9 hput
    have HB9 : Hid (Below w.heap.size w w9) := hput.2.2.2 _ _ (by omega) HB8.out
    have zz := box5_cells (hput.far HZ8.out (by omega))
    have yy := box4_cells hput.1
    clear hput HB8 HO8 HZ8
    go_wp2
    refine bodyPost_ret (v := .tuple #[.agg #[.int .i64 1, .bool false, .int .i64 0, .int .i64 0, .string ⟨#[]⟩], .agg #[.int .i64 5, .int .i64 0, .int .i64 0, .int .i64 0], .bool true]) (by simp only [results, Try.results49]; simp [go_sem, zz, yy]) rfl ⟨rfl, HB9.out⟩
  have q115 : (key == 115) = false := by simpa using k115
  by_cases k120 : key = 120
  · obtain rfl : ⟨newM, 6, 0, 0, 0, true⟩ = r := by rw [← HR.out]; unfold topM; simp [k120]
    clear HR
    subst k120
    (try dsimp only [noP, newM])
    go_upto_region 15 with fail
    go_wp2_with (refine listStoreM rfl rfl _ _ _ rfl rfl (w.heap.size + 1) (1) (false) (0) (0) (⟨#[]⟩) rfl rfl HZ0.out ?_)
    intro w8 hput
    have HB8 : Hid (Below w.heap.size w w8) := hput.2.2.2 _ _ (Nat.le_succ _) HB0.out
    have HO8 : Hid (w8.heap[w.heap.size + 2]? = some (.cells #[.int .i64 0, .int .i64 0, .int .i64 0, .int .i64 0] 34)) := hput.far HO0.out (by omega)
    have HZ8 : Hid (w8.heap[w.heap.size + 1]? = some (.cells #[.int .i64 1, .bool false, .int .i64 0, .int .i64 0, .string ⟨#[]⟩] 26)) := hput.1
    clear hput
    go_wp2_with (refine listStoreO rfl rfl _ _ _ rfl rfl (w.heap.size + 2) (6) (0) (0) (0) rfl rfl HO8.out ?_)
    intro w9 hput
    have HB9 : Hid (Below w.heap.size w w9) := hput.2.2.2 _ _ (by omega) HB8.out
    have zz := box5_cells (hput.far HZ8.out (by omega))
    have yy := box4_cells hput.1
    clear hput HB8 HO8 HZ8
    go_wp2
    refine bodyPost_ret (v := .tuple #[.agg #[.int .i64 1, .bool false, .int .i64 0, .int .i64 0, .string ⟨#[]⟩], .agg #[.int .i64 6, .int .i64 0, .int .i64 0, .int .i64 0], .bool true]) (by simp only [results, Try.results49]; simp [go_sem, zz, yy]) rfl ⟨rfl, HB9.out⟩
  have q120 : (key == 120) = false := by simpa using k120
  obtain rfl : noP newM = r := by rw [← HR.out]; unfold topM; simp [k98, k111, k112, k103, k115, k120]
  clear HR k98 k111 k112 k103 k115 k120
  (try dsimp only [noP, newM])
  go_upto_region 15 with fail
  go_wp2_with (refine listStoreM rfl rfl _ _ _ rfl rfl (w.heap.size + 1) (1) (false) (0) (0) (⟨#[]⟩) rfl rfl HZ0.out ?_)
  intro w8 hput
  have HB8 : Hid (Below w.heap.size w w8) := hput.2.2.2 _ _ (Nat.le_succ _) HB0.out
  have HO8 : Hid (w8.heap[w.heap.size + 2]? = some (.cells #[.int .i64 0, .int .i64 0, .int .i64 0, .int .i64 0] 34)) := hput.far HO0.out (by omega)
  have HZ8 : Hid (w8.heap[w.heap.size + 1]? = some (.cells #[.int .i64 1, .bool false, .int .i64 0, .int .i64 0, .string ⟨#[]⟩] 26)) := hput.1
  clear hput
  go_wp2_with (refine listStoreO rfl rfl _ _ _ rfl rfl (w.heap.size + 2) (0) (0) (0) (0) rfl rfl HO8.out ?_)
  intro w9 hput
  have HB9 : Hid (Below w.heap.size w w9) := hput.2.2.2 _ _ (by omega) HB8.out
  have zz := box5_cells (hput.far HZ8.out (by omega))
  have yy := box4_cells hput.1
  clear hput HB8 HO8 HZ8
  go_wp2
  refine bodyPost_ret (v := .tuple #[.agg #[.int .i64 1, .bool false, .int .i64 0, .int .i64 0, .string ⟨#[]⟩], .agg #[.int .i64 0, .int .i64 0, .int .i64 0, .int .i64 0], .bool false]) (by simp only [results, Try.results49]; simp [go_sem, zz, yy]) rfl ⟨rfl, HB9.out⟩
set_option maxRecDepth 100000 in
set_option maxHeartbeats 4000000 in
theorem orderI (a : Int) (b : Bool) (n d : Int) (S : ByteArray) (z k : Int) (hk : (b = false ∧ k = 1) ∨ (b = true ∧ k = 2)) (B : Bool) (hB : B = true ↔ OrdR k n d z) (o1 o2 o3 o4 : Int) (ho : (B = true ∧ o1 = k ∧ o2 = n ∧ o3 = d ∧ o4 = z) ∨ (B = false ∧ o1 = 0 ∧ o2 = 0 ∧ o3 = 0 ∧ o4 = 0)) (w : World) : Calls Try.prog 54 #[.agg #[.int .i64 a, .bool b, .int .i64 n, .int .i64 d, .string S], .int .i64 z] w fun e w' => e = .returned (.tuple #[.agg #[.int .i64 o1, .int .i64 o2, .int .i64 o3, .int .i64 o4], .bool B]) ∧ Below w.heap.size w w' := by
  obtain ⟨h1, h2, h3, h4, h5⟩ := box3m w (.cells #[.int .i64 a, .bool b, .int .i64 n, .int .i64 d, .string S] 26) (.cells #[.int .i64 0, .int .i64 0, .int .i64 0, .int .i64 0] 34) (.cells #[.int .i64 1, .int .i64 n, .int .i64 d, .int .i64 z] 34)
  have HP0 : Hid (_ = _) := h1
  have HO0 : Hid (_ = _) := h2
  have HY0 : Hid (_ = _) := h3
  have HB0 : Hid (Below _ _ _) := h4
  have p0 := box5_cells h1
  have HB : Hid (B = true ↔ OrdR k n d z) := hB
  have HO4 : Hid _ := ho
  clear h1 h2 h3 h4 h5 hB ho
  go_enter Try.func54, Try.ntmps54
  rcases hk with ⟨rfl, rfl⟩ | ⟨rfl, rfl⟩
  · have y0 := box4_cells HY0.out
    have HBO : Hid (B = true ↔ OrdR (1) (n) (d) (z)) := HB.out
    go_wp2_with fail
    refine (ordokI (1) (n) (d) (z) B HBO.out _).mono ?_
    rintro e w5 ⟨rfl, hb1⟩
    have HY5 : Hid (w5.heap[w.heap.size + 2]? = some (.cells #[.int .i64 1, .int .i64 n, .int .i64 d, .int .i64 z] 34)) := row_on HY0.out hb1
    have HO5 : Hid (w5.heap[w.heap.size + 1]? = some (.cells #[.int .i64 0, .int .i64 0, .int .i64 0, .int .i64 0] 34)) := row_on HO0.out hb1
    have HB5 : Hid (Below w.heap.size w w5) := bel_on (Nat.le_refl _) HB0.out hb1
    have y5 := box4_cells HY5.out
    clear hb1 y0 HY0 HO0 HB0 HBO HB
    cases B
    · obtain ⟨rfl, rfl, rfl, rfl⟩ : o1 = 0 ∧ o2 = 0 ∧ o3 = 0 ∧ o4 = 0 := by rcases HO4.out with h | h; cases h.1; exact h.2
      clear HO4
      go_upto_region 5 with fail
      go_wp2_with (refine listStoreO rfl rfl _ _ _ rfl rfl (w.heap.size + 1) (0) (0) (0) (0) rfl rfl HO5.out ?_)
      intro w9 hput
      have HB9 : Hid (Below w.heap.size w w9) := hput.2.2.2 _ _ (by omega) HB5.out
      have yy := box4_cells hput.1
      clear hput
      go_wp2
      refine bodyPost_ret (v := .tuple #[.agg #[.int .i64 0, .int .i64 0, .int .i64 0, .int .i64 0], .bool false]) (by simp only [results, Try.results54]; simp [go_sem, yy]) rfl ⟨rfl, HB9.out⟩
    · obtain ⟨rfl, rfl, rfl, rfl⟩ : 1 = o1 ∧ n = o2 ∧ d = o3 ∧ z = o4 := by rcases HO4.out with h | h; exact ⟨h.2.1.symm, h.2.2.1.symm, h.2.2.2.1.symm, h.2.2.2.2.symm⟩; cases h.1
      clear HO4
      go_upto_region 6 with fail
      go_wp2_with (refine listStoreO rfl rfl _ _ _ rfl rfl (w.heap.size + 1) (1) (n) (d) (z) rfl rfl HO5.out ?_)
      intro w9 hput
      have HB9 : Hid (Below w.heap.size w w9) := hput.2.2.2 _ _ (by omega) HB5.out
      have yy := box4_cells hput.1
      clear hput
      go_wp2
      refine bodyPost_ret (v := .tuple #[.agg #[.int .i64 1, .int .i64 n, .int .i64 d, .int .i64 z], .bool true]) (by simp only [results, Try.results54]; simp [go_sem, yy]) rfl ⟨rfl, HB9.out⟩
  · go_upto_region 3 with fail
    go_wp2_with (refine listStoreI rfl rfl _ _ _ rfl rfl (w.heap.size + 2) 0 2 rfl rfl HY0.out (by simp) ?_)
    intro w3 hput
    have HB3 : Hid (Below w.heap.size w w3) := hput.2.2.2 _ _ (by omega) HB0.out
    have HO3 : Hid (w3.heap[w.heap.size + 1]? = some (.cells #[.int .i64 0, .int .i64 0, .int .i64 0, .int .i64 0] 34)) := hput.far HO0.out (by omega)
    have HY3 : Hid (w3.heap[w.heap.size + 2]? = some (.cells #[.int .i64 2, .int .i64 n, .int .i64 d, .int .i64 z] 34)) := hput.1
    clear hput HB0 HO0 HY0 HP0 p0
    have HBO : Hid (B = true ↔ OrdR (2) (n) (d) (z)) := HB.out
    have y3 := box4_cells HY3.out
    go_wp2_with fail
    refine (ordokI (2) (n) (d) (z) B HBO.out _).mono ?_
    rintro e w5 ⟨rfl, hb1⟩
    have HY5 : Hid (w5.heap[w.heap.size + 2]? = some (.cells #[.int .i64 2, .int .i64 n, .int .i64 d, .int .i64 z] 34)) := row_on HY3.out hb1
    have HO5 : Hid (w5.heap[w.heap.size + 1]? = some (.cells #[.int .i64 0, .int .i64 0, .int .i64 0, .int .i64 0] 34)) := row_on HO3.out hb1
    have HB5 : Hid (Below w.heap.size w w5) := bel_on (Nat.le_refl _) HB3.out hb1
    have y5 := box4_cells HY5.out
    clear hb1 y3 HY3 HO3 HB3 HBO HB
    cases B
    · obtain ⟨rfl, rfl, rfl, rfl⟩ : o1 = 0 ∧ o2 = 0 ∧ o3 = 0 ∧ o4 = 0 := by rcases HO4.out with h | h; cases h.1; exact h.2
      clear HO4
      go_upto_region 5 with fail
      go_wp2_with (refine listStoreO rfl rfl _ _ _ rfl rfl (w.heap.size + 1) (0) (0) (0) (0) rfl rfl HO5.out ?_)
      intro w9 hput
      have HB9 : Hid (Below w.heap.size w w9) := hput.2.2.2 _ _ (by omega) HB5.out
      have yy := box4_cells hput.1
      clear hput
      go_wp2
      refine bodyPost_ret (v := .tuple #[.agg #[.int .i64 0, .int .i64 0, .int .i64 0, .int .i64 0], .bool false]) (by simp only [results, Try.results54]; simp [go_sem, yy]) rfl ⟨rfl, HB9.out⟩
    · obtain ⟨rfl, rfl, rfl, rfl⟩ : 2 = o1 ∧ n = o2 ∧ d = o3 ∧ z = o4 := by rcases HO4.out with h | h; exact ⟨h.2.1.symm, h.2.2.1.symm, h.2.2.2.1.symm, h.2.2.2.2.symm⟩; cases h.1
      clear HO4
      go_upto_region 6 with fail
      go_wp2_with (refine listStoreO rfl rfl _ _ _ rfl rfl (w.heap.size + 1) (2) (n) (d) (z) rfl rfl HO5.out ?_)
      intro w9 hput
      have HB9 : Hid (Below w.heap.size w w9) := hput.2.2.2 _ _ (by omega) HB5.out
      have yy := box4_cells hput.1
      clear hput
      go_wp2
      refine bodyPost_ret (v := .tuple #[.agg #[.int .i64 2, .int .i64 n, .int .i64 d, .int .i64 z], .bool true]) (by simp only [results, Try.results54]; simp [go_sem, yy]) rfl ⟨rfl, HB9.out⟩
end Go.Proofs.Ytjaimcmnndejgaa
