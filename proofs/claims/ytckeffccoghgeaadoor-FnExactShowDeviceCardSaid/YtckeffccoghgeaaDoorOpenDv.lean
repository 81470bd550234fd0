/-
  A device that came in, opened.
-/
import Derived.Test.YtckeffccoghgeaaDoorPmpMs
import Derived.Test.YtckeffccoghgeaaDoorOpenMn
import Derived.Test.YtckeffccoghgeaaDoorTilM
import Derived.Test.YtckeffccoghgeaaDoorGB
namespace Go.Proofs.YtckeffccoghgeaaDoor
open Go.ChangeShapes Go.WideShapes Go.ChangeAt Go.RowKit Go.Deep Go.PlainAid
set_option linter.unusedVariables false
set_option maxRecDepth 100000

theorem cellsRatD : Tryd.prog.cellsOf 23 = 3 := by kernel_rfl
theorem cellsPmpD : Tryd.prog.cellsOf 25 = 8 := by kernel_rfl
theorem cellsGdD : Tryd.prog.cellsOf 28 = 2 := by kernel_rfl
theorem cellsTlD : Tryd.prog.cellsOf 31 = 1 := by kernel_rfl
theorem cellsIsD : Tryd.prog.cellsOf 26 = 1 := by kernel_rfl
theorem cellsDev : Tryd.prog.cellsOf 33 = 17 := by kernel_rfl
theorem openPmT {H : Type} {enc : TypeId × Value → H} {W : World} {held : Bool} {x : DataW H × List MemPlace} {bs fuel : Nat} {c0 c1 c2 c3 c4 c5 c6 c7 : Value}
    (h : DataW.trod enc Tryd.prog W bs (fun _ => true) held fuel 25 [c0, c1, c2, c3, c4, c5, c6, c7] = some x) :
    ∃ p : Pm, c0 = .int .i64 p.s ∧ c1 = .int .i64 p.n ∧ c2 = .int .i64 p.d ∧ c3 = .int .i64 p.r ∧ c4 = .int .i64 p.l ∧ c5 = .int .i64 p.b ∧ c6 = .int .i64 p.g ∧ c7 = .int .i64 p.k := by
  obtain ⟨xs, kk, hk, hxy, _, hxl, hf⟩ := DataW.trod_struct Tryd.underlying25 h
  match xs, hxl with
  | [y0, y1, y2, y3, y4, y5], _ =>
    have g0 := hf 0 _ rfl
    have g1 := hf 1 _ rfl
    have g2 := hf 2 _ rfl
    have g3 := hf 3 _ rfl
    have g4 := hf 4 _ rfl
    have g5 := hf 5 _ rfl
    simp [cells3m, cellsRatD] at g0 g1 g2 g3 g4 g5
    obtain ⟨z0, q0, _, u0⟩ := DataW.trod_int Tryd.underlying3 g0
    obtain ⟨z2, q2, _, u2⟩ := DataW.trod_int Tryd.underlying3 g2
    obtain ⟨z3, q3, _, u3⟩ := DataW.trod_int Tryd.underlying3 g3
    obtain ⟨z4, q4, _, u4⟩ := DataW.trod_int Tryd.underlying3 g4
    obtain ⟨z5, q5, _, u5⟩ := DataW.trod_int Tryd.underlying3 g5
    obtain ⟨xs1, kk1, hk1, hxy1, _, hxl1, hf1⟩ := DataW.trod_struct Tryd.underlying23 g1
    match xs1, hxl1 with
    | [e0, e1, e2], _ =>
      have f0 := hf1 0 _ rfl
      have f1 := hf1 1 _ rfl
      have f2 := hf1 2 _ rfl
      simp [cells3m] at f0 f1 f2
      obtain ⟨t0, p0, _, v0⟩ := DataW.trod_int Tryd.underlying3 f0
      obtain ⟨t1, p1, _, v1⟩ := DataW.trod_int Tryd.underlying3 f1
      obtain ⟨t2, p2, _, v2⟩ := DataW.trod_int Tryd.underlying3 f2
      simp at q0 q2 q3 q4 q5 p0 p1 p2
      exact ⟨⟨z0, t0, t1, t2, z2, z3, z4, z5⟩, q0, p0, p1, p2, q2, q3, q4, q5⟩
theorem openGdT {H : Type} {enc : TypeId × Value → H} {W : World} {held : Bool} {x : DataW H × List MemPlace} {bs fuel : Nat} {c0 c1 : Value}
    (h : DataW.trod enc Tryd.prog W bs (fun _ => true) held fuel 28 [c0, c1] = some x) :
    ∃ al a len cap zs, c0 = .slice a len cap ∧ c1 = .int .i64 al ∧ G.IsRow .i64 W a len cap zs := by
  obtain ⟨y0, y1, m, hx, _, hy0, hy1⟩ := trod_struct2 Tryd.underlying28 h
  obtain ⟨al, e0, rfl, wa⟩ := DataW.trod_int Tryd.underlying3 hy1
  simp [cells3m] at e0
  subst e0
  simp [cellsIsD] at hy0
  rcases open_ints Tryd.underlying26 Tryd.underlying3 (by kernel_rfl) hy0 with ⟨hcs, _⟩ | ⟨x, l, c, zs, hcs, _, hl, hm, hz, _, hcell, hwz⟩
  · simp at hcs
    subst hcs
    exact ⟨al, none, 0, 0, [], rfl, rfl, .inl ⟨rfl, rfl, rfl, rfl⟩⟩
  · simp at hcs
    subst hcs
    exact ⟨al, _, _, _, zs, rfl, rfl, .inr ⟨_, rfl, hl, hm, by simpa using hz, hcell, hwz⟩⟩
theorem openMnT {H : Type} {enc : TypeId × Value → H} {W : World} {held : Bool} {x : DataW H × List MemPlace} {bs fuel : Nat} {c0 c1 c2 c3 c4 : Value}
    (h : DataW.trod enc Tryd.prog W bs (fun _ => true) held fuel 30 [c0, c1, c2, c3, c4] = some x) :
    ∃ m : Mn, c0 = .int .i64 m.a ∧ c1 = .bool m.b ∧ c2 = .int .i64 m.n ∧ c3 = .int .i64 m.d ∧ c4 = .string ⟨m.s.toArray⟩ ∧ m.s.length ≤ maxLen := by
  obtain ⟨xs, kk, hk, hxy, _, hxl, hf⟩ := DataW.trod_struct Tryd.underlying30 h
  match xs, hxl with
  | [y0, y1, y2, y3, y4], _ =>
    have g0 := hf 0 _ rfl
    have g1 := hf 1 _ rfl
    have g2 := hf 2 _ rfl
    have g3 := hf 3 _ rfl
    have g4 := hf 4 _ rfl
    simp [cells3m, cells4m, cells9m] at g0 g1 g2 g3 g4
    obtain ⟨z0, q0, _, u0⟩ := DataW.trod_int Tryd.underlying3 g0
    obtain ⟨z1, q1, _⟩ := DataW.trod_bool Tryd.underlying4 g1
    obtain ⟨z2, q2, _, u2⟩ := DataW.trod_int Tryd.underlying3 g2
    obtain ⟨z3, q3, _, u3⟩ := DataW.trod_int Tryd.underlying3 g3
    obtain ⟨z4, q4, _, u4⟩ := DataW.trod_string Tryd.underlying9 g4
    simp at q0 q1 q2 q3 q4
    exact ⟨⟨z0, z1, z2, z3, z4.data.toList⟩, q0, q1, q2, q3, by rw [q4], u4⟩
theorem open_device {H : Type} {enc : TypeId × Value → H} {W : World} {base : Nat} {held : Bool} {v : Value} {d : DataW H} {ps : List MemPlace} {bs : Nat}
    (hv : Value.okWide Tryd.prog W .any base 33 v) (h : DataW.Trod enc Tryd.prog W bs (fun _ => true) held 33 v d ps) :
    ∃ (p : Pm) (al : Int) (a : Option Addr) (n cap : Nat) (zs : List Int) (m : Mn) (ta : Option Addr) (tn tc : Nat) (tl : List Tk3) (rf : Int), v = .agg #[.int .i64 p.s, .int .i64 p.n, .int .i64 p.d, .int .i64 p.r, .int .i64 p.l, .int .i64 p.b, .int .i64 p.g, .int .i64 p.k, .slice a n cap, .int .i64 al, .int .i64 m.a, .bool m.b, .int .i64 m.n, .int .i64 m.d, .string ⟨m.s.toArray⟩, .slice ta tn tc, .int .i64 rf] ∧ G.IsRow .i64 W a n cap zs ∧ m.s.length ≤ maxLen ∧ tl.length = tn ∧ tn ≤ tc ∧ tn ≤ 9223372036854775807 ∧ RdY W ta tl := by
  obtain ⟨cs, rfl, hsz⟩ := okWide_struct Tryd.underlying33 hv
  rw [cellsDev] at hsz
  obtain ⟨l⟩ := cs
  match l, hsz with
  | [c0, c1, c2, c3, c4, c5, c6, c7, c8, c9, c10, c11, c12, c13, c14, c15, c16], _ =>
  obtain ⟨fuel, hf⟩ := h
  obtain ⟨xs, kk, hk, hxy, _, hxl, hf⟩ := DataW.trod_struct Tryd.underlying33 hf
  match xs, hxl with
  | [y0, y1, y2, y3, y4], _ =>
    have g0 := hf 0 _ rfl
    have g1 := hf 1 _ rfl
    have g2 := hf 2 _ rfl
    have g3 := hf 3 _ rfl
    have g4 := hf 4 _ rfl
    simp [Value.cells, cells3m, cellsPmpD, cellsGdD, cellsMn, cellsTlD] at g0 g1 g2 g3 g4
    obtain ⟨p, a0, a1, a2, a3, a4, a5, a6, a7⟩ := openPmT g0
    obtain ⟨al, ga, gn, gc, zs, b0, b1, hrow⟩ := openGdT g1
    obtain ⟨m, d0, d1, d2, d3, d4, hml⟩ := openMnT g2
    obtain ⟨ta, tn, tc, tl, e0, e1, e2, e3, e4, _⟩ := openY g3
    obtain ⟨rf, f0, _, _⟩ := DataW.trod_int Tryd.underlying3 g4
    simp at f0
    subst a0 a1 a2 a3 a4 a5 a6 a7 b0 b1 d0 d1 d2 d3 d4 e0 f0
    exact ⟨p, al, ga, gn, gc, zs, m, ta, tn, tc, tl, rf, rfl, hrow, hml, e1, e2, e3, e4⟩
end Go.Proofs.YtckeffccoghgeaaDoor
