/-
  A set-up, a kernel that was made anew is marked.
-/
import Derived.Test.YtfdhcchakoldpaaKMk
import Derived.Test.YtfdhcchakoldpaaKer
namespace Go.Proofs.Ytfdhcchakoldpaa
open Go.ChangeShapes Go.WideShapes Go.ChangeAt Go.RowKit Go.PlainAid
set_option linter.unusedVariables false

theorem intC_row {w : World} {g : Nat} {T : TypeId} {xs : List Value} {N : Nat} (h : w.heap[g]? = some (.cells xs.toArray T (0, 0))) (hl : xs.length = N) (ha : ∀ v ∈ xs, ∃ z, v = .int .i64 z) : ∀ i, i < N → IntC w g i := fun i hi => by
  have hi' : i < xs.length := by omega
  obtain ⟨z, hz⟩ := ha xs[i] (List.getElem_mem hi')
  exact ⟨_, T, z, h, by simp [hi', hz]⟩
theorem strC_row {w : World} {g : Nat} {T : TypeId} {xs : List Value} {N : Nat} (h : w.heap[g]? = some (.cells xs.toArray T (0, 0))) (hl : xs.length = N) (ha : ∀ v ∈ xs, ∃ z, v = .string z) : ∀ i, i < N → StrC w g i := fun i hi => by
  have hi' : i < xs.length := by omega
  obtain ⟨z, hz⟩ := ha xs[i] (List.getElem_mem hi')
  exact ⟨_, T, z, h, by simp [hi', hz]⟩
theorem int_R : ∀ (l : List (Int × Int)) (v : Value), v ∈ R.regsV l → ∃ z, v = .int .i64 z
  | [], v, h => by simp [R.regsV] at h
  | r :: l, v, h => by
    simp [R.regsV] at h
    rcases h with (rfl | rfl | h)
    · exact ⟨_, rfl⟩
    · exact ⟨_, rfl⟩
    · exact int_R l v h
theorem int_W : ∀ (l : List (Int × Int)) (v : Value), v ∈ regsV l → ∃ z, v = .int .i64 z
  | [], v, h => by simp [regsV] at h
  | r :: l, v, h => by
    simp [regsV] at h
    rcases h with (rfl | rfl | h)
    · exact ⟨_, rfl⟩
    · exact ⟨_, rfl⟩
    · exact int_W l v h
theorem int_M : ∀ (l : List (Int × Int)) (v : Value), v ∈ P.regsV l → ∃ z, v = .int .i64 z
  | [], v, h => by simp [P.regsV] at h
  | r :: l, v, h => by
    simp [P.regsV] at h
    rcases h with (rfl | rfl | h)
    · exact ⟨_, rfl⟩
    · exact ⟨_, rfl⟩
    · exact int_M l v h
theorem int_U : ∀ (l : List (Rule)) (v : Value), v ∈ rulV l → ∃ z, v = .int .i64 z
  | [], v, h => by simp [rulV] at h
  | r :: l, v, h => by
    simp [rulV] at h
    rcases h with (rfl | rfl | rfl | h)
    · exact ⟨_, rfl⟩
    · exact ⟨_, rfl⟩
    · exact ⟨_, rfl⟩
    · exact int_U l v h
theorem int_O : ∀ (l : List (Prt)) (v : Value), v ∈ prtV l → ∃ z, v = .int .i64 z
  | [], v, h => by simp [prtV] at h
  | r :: l, v, h => by
    simp [prtV] at h
    rcases h with (rfl | rfl | rfl | rfl | rfl | h)
    · exact ⟨_, rfl⟩
    · exact ⟨_, rfl⟩
    · exact ⟨_, rfl⟩
    · exact ⟨_, rfl⟩
    · exact ⟨_, rfl⟩
    · exact int_O l v h
theorem int_E : ∀ (l : List (Ent)) (v : Value), v ∈ entV l → ∃ z, v = .int .i64 z
  | [], v, h => by simp [entV] at h
  | r :: l, v, h => by
    simp [entV] at h
    rcases h with (rfl | rfl | rfl | rfl | rfl | h)
    · exact ⟨_, rfl⟩
    · exact ⟨_, rfl⟩
    · exact ⟨_, rfl⟩
    · exact ⟨_, rfl⟩
    · exact ⟨_, rfl⟩
    · exact int_E l v h
theorem int_I (l : List Int) (v : Value) (h : v ∈ intsV l) : ∃ z, v = .int .i64 z := by
  simp [intsV] at h
  obtain ⟨z, _, rfl⟩ := h
  exact ⟨z, rfl⟩
theorem str_S (l : List ByteArray) (v : Value) (h : v ∈ S.strV l) : ∃ z, v = .string z := by
  simp [S.strV] at h
  obtain ⟨z, _, rfl⟩ := h
  exact ⟨z, rfl⟩
theorem msgs_len (l : MsgL) : (P.regsV l).length = l.length * 2 := P.regsV_len l
theorem par_int {w : World} {g n : Nat} {v : List PV} {l : List PX} {b : Nat → Nat} (hr : RowQ w g v) (hl : v.length = n) (hl' : l.length = n) (hv : ∀ j (h : j < l.length) (h' : j < v.length), v[j] = pvOf l[j] (some ⟨b j, 0, none⟩) l[j].sk.length) : ∀ i, pcelI n i → IntC w g i := by
  rintro i ⟨h1, h2⟩
  have hj : i / 6 < v.length := by omega
  have hj' : i / 6 < l.length := by omega
  have ha := parV_at v (i / 6) hj
  rw [hv _ hj' hj] at ha
  unfold pvOf at ha
  have h3 : i % 6 = 0 ∨ i % 6 = 1 ∨ i % 6 = 3 ∨ i % 6 = 4 ∨ i % 6 = 5 := by omega
  rcases h3 with e | e | e | e | e
  · exact ⟨_, _, _, hr, by have := ha.1; rw [show i / 6 * 6 = i by omega] at this; simpa using this⟩
  · exact ⟨_, _, _, hr, by have := ha.2.1; rw [show i / 6 * 6 + 1 = i by omega] at this; simpa using this⟩
  · exact ⟨_, _, _, hr, by have := ha.2.2.2.1; rw [show i / 6 * 6 + 3 = i by omega] at this; simpa using this⟩
  · exact ⟨_, _, _, hr, by have := ha.2.2.2.2.1; rw [show i / 6 * 6 + 4 = i by omega] at this; simpa using this⟩
  · exact ⟨_, _, _, hr, by have := ha.2.2.2.2.2; rw [show i / 6 * 6 + 5 = i by omega] at this; simpa using this⟩
theorem par_sli {w : World} {g n : Nat} {v : List PV} {l : List PX} {b : Nat → Nat} (hr : RowQ w g v) (hl : v.length = n) (hl' : l.length = n) (hv : ∀ j (h : j < l.length) (h' : j < v.length), v[j] = pvOf l[j] (some ⟨b j, 0, none⟩) l[j].sk.length) : ∀ j (h : j < n), SliC w g (j * 6 + 2) (some ⟨b j, 0, none⟩) ((l.map (·.sk.length)).getD j 0) ((l.map (·.sk.length)).getD j 0) := by
  intro j h
  have hj : j < v.length := by omega
  have hj' : j < l.length := by omega
  have ha := (parV_at v j hj).2.2.1
  rw [hv _ hj' hj] at ha
  unfold pvOf at ha
  refine ⟨_, _, hr, ?_⟩
  have e : (l.map (·.sk.length)).getD j 0 = l[j].sk.length := by simp [hj']
  rw [e]
  simpa using ha
theorem lin_sli {w : World} {g n : Nat} {v : List Value} {l : List MsgL} {b : Nat → Nat} (hr : RowV w g v) (hl : v.length = n) (hl' : l.length = n) (hv : ∀ j (h : j < l.length) (h' : j < v.length), v[j] = .slice (some ⟨b j, 0, none⟩) l[j].length l[j].length) : ∀ j (h : j < n), SliC w g j (some ⟨b j, 0, none⟩) ((l.map (·.length)).getD j 0) ((l.map (·.length)).getD j 0) := by
  intro j h
  have hj : j < v.length := by omega
  have hj' : j < l.length := by omega
  refine ⟨_, _, hr, ?_⟩
  have e : (l.map (·.length)).getD j 0 = l[j].length := by simp [hj']
  rw [e]
  simp [hj, hv j hj' hj]
end Go.Proofs.Ytfdhcchakoldpaa
