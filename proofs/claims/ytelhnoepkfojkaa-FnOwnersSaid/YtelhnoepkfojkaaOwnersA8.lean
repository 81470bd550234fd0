/-
  FnOwners' last row: two appends of lists of regions, at an operation of a drawn region.
-/
import Derived.Test.YtelhnoepkfojkaaDrawN8
import Derived.Test.YtelhnoepkfojkaaStoresIn8
import Derived.Deep.AppendLies
namespace Go.Proofs.Ytelhnoepkfojkaa
open Go.RowKit Go.PlainAid
set_option linter.unusedVariables false

theorem rdR_news {W : World} {ql qo : Nat} {rl : List (Int × Int)} (h : RdR W (some ⟨ql, qo, none⟩) rl) : ∀ j u, (regsV rl)[j]? = some u → W.cell? ((⟨ql, qo, none⟩ : Addr).add j) = some u := by
  intro j u hu
  have hj : j < rl.length * 2 := by rw [← regsV_len]; exact (List.getElem?_eq_some_iff.1 hu).1
  have hadd : (⟨ql, qo, none⟩ : Addr).add j = ⟨ql, qo + j, none⟩ := by unfold Addr.add; split <;> simp_all
  obtain ⟨g', o', e, hc⟩ := h (by omega)
  cases e
  have hq : j / 2 < rl.length := by omega
  have h1 := regsV_at rl (j / 2) hq
  have h2 := hc (j / 2) hq
  rw [hadd]
  rcases Nat.mod_two_eq_zero_or_one j with hm | hm
  · have e : j / 2 * 2 = j := by omega
    rw [e] at h1 h2
    rw [h1.1] at hu
    cases hu
    exact h2.1
  · have e : j / 2 * 2 + 1 = j := by omega
    rw [Nat.add_assoc, e] at h2
    rw [e] at h1
    rw [h1.2] at hu
    cases hu
    exact h2.2

theorem app_first {ops : Array Oper} {o : Oper} {a : Act} {K : Act → World → Prop} {Q : Exit → Act → World → Prop} {E : Prop} {W : World} (hw : Region.wanted o (yielded ops a.tmps) = true) (s x : Operand)
    (ho : o.op = .call { callee := .builtin .append, args := #[s, x], argTypes := #[44, 44] }) (B e ql qo n c : Nat) (rl : List (Int × Int))
    (hs : a.eval s = .slice (some ⟨e, 0, none⟩) 0 0) (hx : a.eval x = .slice (some ⟨ql, qo, none⟩) n c)
    (hown : W.ownsRow B 31 2 (.slice (some ⟨e, 0, none⟩) 0 0) 0 (regsV [])) (hn : rl.length = n) (n1 : 1 ≤ n) (n4 : n ≤ 4) (hr : RdR W (some ⟨ql, qo, none⟩) rl) (hB : B ≤ W.heap.size)
    (h : ∀ g cap w', w'.ownsRow B 31 2 (.slice (some ⟨g, 0, none⟩) n cap) n (regsV rl) → W.grownBy w' (some e) → K (a.put o.dst (.slice (some ⟨g, 0, none⟩) n cap)) w') :
    if Region.wanted o (yielded ops a.tmps) = true then Oper.wp Try.prog o a W K Q else E := by
  obtain ⟨i0, hi, hz0, hz1, hz2⟩ := info_parts infoR
  rw [if_pos hw]
  refine wp_append_lies W s x 44 ho B 31 i0 (.agg #[.int .i64 0, .int .i64 0]) 2 16 Try.underlying44 hi hz0 hz1 hz2 rfl (by decide) _ 0 _ hs hown ⟨ql, qo, none⟩ n c (regsV rl) hx (by rw [regsV_len, hn]) (rdR_news hr) (regsV_one rl) (by omega) (by unfold maxLen; omega) (by omega) hB _ rfl ?_
  intro g cap w' h1 h2 _ _
  rw [Nat.zero_add] at h1 ⊢
  exact h g cap w' h1 h2

theorem app_second {ops : Array Oper} {o : Oper} {a : Act} {K : Act → World → Prop} {Q : Exit → Act → World → Prop} {E : Prop} {W : World} (hw : Region.wanted o (yielded ops a.tmps) = true) (s x : Operand)
    (ho : o.op = .call { callee := .builtin .append, args := #[s, x], argTypes := #[44, 44] }) (B g r n c : Nat) (f z : Int) (rl : List (Int × Int))
    (hs : a.eval s = .slice (some ⟨g, 0, none⟩) n c) (hx : a.eval x = .slice (some ⟨r, 0, none⟩) 1 1)
    (hown : W.ownsRow B 31 2 (.slice (some ⟨g, 0, none⟩) n c) n (regsV rl)) (hr : W.heap[r]? = some (.cells #[.int .i64 f, .int .i64 z] 31)) (n4 : n ≤ 4) (hB : B ≤ W.heap.size)
    (h : ∀ g' cap w', w'.ownsRow B 31 2 (.slice (some ⟨g', 0, none⟩) (n + 1) cap) (n + 1) (regsV (rl ++ [(f, z)])) → W.grownBy w' (some g) → K (a.put o.dst (.slice (some ⟨g', 0, none⟩) (n + 1) cap)) w') :
    if Region.wanted o (yielded ops a.tmps) = true then Oper.wp Try.prog o a W K Q else E := by
  obtain ⟨i0, hi, hz0, hz1, hz2⟩ := info_parts infoR
  rw [if_pos hw]
  refine wp_append_lies W s x 44 ho B 31 i0 (.agg #[.int .i64 0, .int .i64 0]) 2 16 Try.underlying44 hi hz0 hz1 hz2 rfl (by decide) _ n _ hs hown ⟨r, 0, none⟩ 1 1 [.int .i64 f, .int .i64 z] hx rfl (World.news_of_block (cs := #[.int .i64 f, .int .i64 z]) hr) (by intro u hu; simp at hu; rcases hu with rfl | rfl <;> rfl) (by omega) (by unfold maxLen; omega) (by omega) hB _ rfl ?_
  intro g' cap w' h1 h2 _ _
  refine h g' cap w' ?_ h2
  rw [regsV_append]
  exact h1

theorem own_emptyE (W : World) (B e : Nat) (he : e = W.heap.size) (hB : B ≤ W.heap.size) : (W.alloc (.cells #[] 31)).ownsRow B 31 2 (.slice (some ⟨e, 0, none⟩) 0 0) 0 (regsV []) := by
  subst he
  exact own_emptyR W B hB
theorem own_get {w : World} {B g n c : Nat} {rl : List (Int × Int)} (h : w.ownsRow B 31 2 (.slice (some ⟨g, 0, none⟩) n c) n (regsV rl)) : n ≤ c ∧ RdR w (some ⟨g, 0, none⟩) rl := by
  obtain ⟨q, c', hv, hc, _, hr⟩ := own_rdR h
  cases hv
  exact ⟨hc, hr⟩
theorem regs_twice {rl : List (Int × Int)} {k : Nat} (hk : k < rl.length) {f s : Int} (hf : rl[k].1 = f ∧ rl[k].2 = s) (h : RegsOk rl) : ¬ RegsOk (rl ++ [(f, s)]) := fun h2 => by
  have h3 := h2.2.2.2 rl.length (by simp) k hk
  have h1 := h.2.2.1 k hk
  rw [List.getElem_append_left hk] at h3
  rw [List.getElem_concat_length rfl] at h3
  rw [hf.1, hf.2] at h3 h1
  unfold apart at h3
  unfold regIn at h1
  simp only at h3
  omega
theorem bel_grown {w W W' : World} {e : Nat} (h : Below w.heap.size w W) (hg : W.grownBy W' (some e)) (he : w.heap.size ≤ e) : Below w.heap.size w W' := h.grown hg h.size (fun k hk => by cases hk; exact he)
theorem rowA (w : World) (R E : Obj) : ((w.alloc R).alloc E).heap[w.heap.size]? = some R := (Below.heap_alloc _ _ _ (by simp)).trans (heap_new w R)
theorem rowB (w : World) (E R : Obj) : ((w.alloc E).alloc R).heap[w.heap.size + 1]? = some R := by
  have h := heap_new (w.alloc E) R
  have e : (w.alloc E).heap.size = w.heap.size + 1 := by simp
  rw [e] at h
  exact h
theorem c6_keep {W0 W' : World} {a b : Addr} {x y : Value} {q : Option Addr} {rl : List (Int × Int)} (h : W0.cell? a = some x ∧ W0.cell? b = some y ∧ RdR W0 q rl) (hB : Below W0.heap.size W0 W') : W'.cell? a = some x ∧ W'.cell? b = some y ∧ RdR W' q rl ∧ Below W0.heap.size W0 W' :=
  ⟨(hB.cell (World.block_lt_of_cell? W0 _ h.1)).trans h.1, (hB.cell (World.block_lt_of_cell? W0 _ h.2.1)).trans h.2.1, h.2.2.on hB, hB⟩
theorem c6_bel {W0 W : World} {a b : Addr} {x y : Value} {q : Option Addr} {rl : List (Int × Int)} (h : W.cell? a = some x ∧ W.cell? b = some y ∧ RdR W q rl ∧ Below W0.heap.size W0 W) : Below W0.heap.size W0 W := h.2.2.2
theorem c6_rd {W0 W : World} {a b : Addr} {x y : Value} {q : Option Addr} {rl : List (Int × Int)} (h : W.cell? a = some x ∧ W.cell? b = some y ∧ RdR W q rl ∧ Below W0.heap.size W0 W) : RdR W q rl := h.2.2.1
theorem c6_on {W0 W W' : World} {a b : Addr} {x y : Value} {q : Option Addr} {rl : List (Int × Int)} (hb : Below W.heap.size W W') (h : W.cell? a = some x ∧ W.cell? b = some y ∧ RdR W q rl ∧ Below W0.heap.size W0 W) : Below W0.heap.size W0 W' := bel_on (Nat.le_refl _) h.2.2.2 hb
end Go.Proofs.Ytelhnoepkfojkaa
