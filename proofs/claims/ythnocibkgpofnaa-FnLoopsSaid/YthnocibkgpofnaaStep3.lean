/-
  An instruction at work: what each one does (cells apart).
-/
import Derived.Test.YthnocibkgpofnaaStep2
namespace Go.Proofs.Ythnocibkgpofnaa
open Go.RowKit Go.PlainAid
set_option linter.unusedVariables false
theorem grown_undrew {w W : World} {r : Option Nat} (h : w.drew.grownBy W r) : w.grownBy W r := ⟨h.os, h.tape, h.output, h.size, h.block⟩
theorem grown_drew {w W : World} {r : Option Nat} (h : w.grownBy W r) : w.grownBy W.drew r := ⟨h.os, h.tape, h.output, h.size, h.block⟩
theorem rd_drewN {w : World} {a : Option Addr} {l : List Int} (h : Rd w a l) (q : Nat) : Rd (w.drewN q) a l := h.on (below_drewN (Below.refl _ _) q)
theorem StepIs.drewN {w : World} {bs : Nat} {op arg t f s pc : Int} {sv av : Value} {k po nu tr a b : Int} (h : StepIs w bs op arg t f s pc sv av k po nu tr a b) (q : Nat) : StepIs (w.drewN q) bs op arg t f s pc sv av k po nu tr a b := h.on (below_drewN (Below.refl _ _) q)

set_option maxRecDepth 100000 in
set_option maxHeartbeats 1000000 in
theorem pushY (w : World) (bs g n cp : Nat) (st : List Int) (op arg t f s pc : Int) (av : Value) (k po nu tr a b : Int) (h : StepIs w bs op arg t f s pc (.slice (some ⟨g, 0, none⟩) n cp) av k po nu tr a b) (hr : Rd w (some ⟨g, 0, none⟩) st) (hl : st.length = n) (hc : CpuR pc st) (h8 : n ≠ 8) :
    Calls Try.prog 83 #[.pointer (some ⟨bs, 0, none⟩)] w fun e w' => e = .returned (.tuple #[]) ∧ ∃ g' c', StepIs w' bs op arg t f s pc (.slice (some ⟨g', 0, none⟩) (n + 1) c') av k po nu tr a b ∧ OwnN w' w.heap.size g' (n + 1) c' (st ++ [arg % 65536]) ∧ w.grownBy w' (some bs) := by
  have HS : Hid (StepIs _ _ _ _ _ _ _ _ _ _ _ _ _ _ _ _) := h
  have kf := h.facts
  have HR : Hid (Rd _ _ _) := hr
  have HL : Hid (st.length = n) := hl
  have HC : Hid (CpuR pc st) := hc
  have H8 : Hid (n ≠ 8) := h8
  clear h hr hl hc h8
  go_enter Try.func83, Try.ntmps83
  go_wp2_with fail
  clear kf
  refine (putY w bs g n cp st arg op arg t f s pc av k po nu tr a b HS.out HR.out HL.out HC.out H8.out).mono ?_
  rintro e w1 ⟨rfl, g', c', h1, hown, hg⟩
  have H1 : Hid (StepIs _ _ _ _ _ _ _ _ _ _ _ _ _ _ _ _) := h1
  have HO : Hid (OwnN _ _ _ _ _ _) := hown
  have HG : Hid (w.grownBy w1 _) := hg
  clear h1 hown hg
  go_wp2
  go_end0
  exact ⟨rfl, g', c', H1.out, HO.out, HG.out⟩
set_option maxRecDepth 100000 in
set_option maxHeartbeats 1000000 in
theorem pushN (w : World) (bs g n cp : Nat) (st : List Int) (op arg t f s pc : Int) (av : Value) (k po nu tr a b : Int) (h : StepIs w bs op arg t f s pc (.slice (some ⟨g, 0, none⟩) n cp) av k po nu tr a b) (hr : Rd w (some ⟨g, 0, none⟩) st) (hl : st.length = n) (h8 : n = 8) :
    Calls Try.prog 83 #[.pointer (some ⟨bs, 0, none⟩)] w fun e w' => e = .returned (.tuple #[]) ∧ StepIs w' bs op arg t f s pc (.slice (some ⟨g, 0, none⟩) n cp) av 0 0 0 4 a b ∧ w.grownBy w' (some bs) := by
  have HS : Hid (StepIs _ _ _ _ _ _ _ _ _ _ _ _ _ _ _ _) := h
  have kf := h.facts
  have HR : Hid (Rd _ _ _) := hr
  have HL : Hid (st.length = n) := hl
  have H8 : Hid (n = 8) := h8
  clear h hr hl h8
  go_enter Try.func83, Try.ntmps83
  go_wp2_with fail
  clear kf
  refine (putN w bs g n cp st arg op arg t f s pc av k po nu tr a b HS.out HR.out HL.out H8.out).mono ?_
  rintro e w1 ⟨rfl, h1, hg⟩
  have H1 : Hid (StepIs _ _ _ _ _ _ _ _ _ _ _ _ _ _ _ _) := h1
  have HG : Hid (w.grownBy w1 _) := hg
  clear h1 hg
  go_wp2
  go_end0
  exact ⟨rfl, H1.out, HG.out⟩

set_option maxRecDepth 100000 in
set_option maxHeartbeats 1000000 in
theorem ptimeY (w : World) (bs g n cp : Nat) (st : List Int) (op arg t f s pc : Int) (av : Value) (k po nu tr a b : Int) (h : StepIs w bs op arg t f s pc (.slice (some ⟨g, 0, none⟩) n cp) av k po nu tr a b) (hr : Rd w (some ⟨g, 0, none⟩) st) (hl : st.length = n) (hc : CpuR pc st) (h8 : n ≠ 8) :
    Calls Try.prog 95 #[.pointer (some ⟨bs, 0, none⟩)] w fun e w' => e = .returned (.tuple #[]) ∧ ∃ g' c', StepIs w' bs op arg t f s pc (.slice (some ⟨g', 0, none⟩) (n + 1) c') av k po nu tr a b ∧ OwnN w' w.heap.size g' (n + 1) c' (st ++ [t % 65536]) ∧ w.grownBy w' (some bs) := by
  have HS : Hid (StepIs _ _ _ _ _ _ _ _ _ _ _ _ _ _ _ _) := h
  have kf := h.facts
  have HR : Hid (Rd _ _ _) := hr
  have HL : Hid (st.length = n) := hl
  have HC : Hid (CpuR pc st) := hc
  have H8 : Hid (n ≠ 8) := h8
  clear h hr hl hc h8
  go_enter Try.func95, Try.ntmps95
  go_wp2_with fail
  clear kf
  refine (putY w bs g n cp st t op arg t f s pc av k po nu tr a b HS.out HR.out HL.out HC.out H8.out).mono ?_
  rintro e w1 ⟨rfl, g', c', h1, hown, hg⟩
  have H1 : Hid (StepIs _ _ _ _ _ _ _ _ _ _ _ _ _ _ _ _) := h1
  have HO : Hid (OwnN _ _ _ _ _ _) := hown
  have HG : Hid (w.grownBy w1 _) := hg
  clear h1 hown hg
  go_wp2
  go_end0
  exact ⟨rfl, g', c', H1.out, HO.out, HG.out⟩
set_option maxRecDepth 100000 in
set_option maxHeartbeats 1000000 in
theorem ptimeN (w : World) (bs g n cp : Nat) (st : List Int) (op arg t f s pc : Int) (av : Value) (k po nu tr a b : Int) (h : StepIs w bs op arg t f s pc (.slice (some ⟨g, 0, none⟩) n cp) av k po nu tr a b) (hr : Rd w (some ⟨g, 0, none⟩) st) (hl : st.length = n) (h8 : n = 8) :
    Calls Try.prog 95 #[.pointer (some ⟨bs, 0, none⟩)] w fun e w' => e = .returned (.tuple #[]) ∧ StepIs w' bs op arg t f s pc (.slice (some ⟨g, 0, none⟩) n cp) av 0 0 0 4 a b ∧ w.grownBy w' (some bs) := by
  have HS : Hid (StepIs _ _ _ _ _ _ _ _ _ _ _ _ _ _ _ _) := h
  have kf := h.facts
  have HR : Hid (Rd _ _ _) := hr
  have HL : Hid (st.length = n) := hl
  have H8 : Hid (n = 8) := h8
  clear h hr hl h8
  go_enter Try.func95, Try.ntmps95
  go_wp2_with fail
  clear kf
  refine (putN w bs g n cp st t op arg t f s pc av k po nu tr a b HS.out HR.out HL.out H8.out).mono ?_
  rintro e w1 ⟨rfl, h1, hg⟩
  have H1 : Hid (StepIs _ _ _ _ _ _ _ _ _ _ _ _ _ _ _ _) := h1
  have HG : Hid (w.grownBy w1 _) := hg
  clear h1 hg
  go_wp2
  go_end0
  exact ⟨rfl, H1.out, HG.out⟩

set_option maxRecDepth 100000 in
set_option maxHeartbeats 2000000 in
theorem addY (w : World) (bs g n cp : Nat) (st : List Int) (op arg t f s pc : Int) (av : Value) (k po nu tr a b : Int) (X : Int) (hX : IntKind.i64.wrap (a + b) = X) (h : StepIs w bs op arg t f s pc (.slice (some ⟨g, 0, none⟩) n cp) av k po nu tr a b) (hr : Rd w (some ⟨g, 0, none⟩) st) (hl : st.length = n) (hc : CpuR pc st) (h8 : n ≠ 8) :
    Calls Try.prog 86 #[.pointer (some ⟨bs, 0, none⟩)] w fun e w' => e = .returned (.tuple #[]) ∧ ∃ g' c', StepIs w' bs op arg t f s pc (.slice (some ⟨g', 0, none⟩) (n + 1) c') av k po nu tr a b ∧ OwnN w' w.heap.size g' (n + 1) c' (st ++ [X % 65536]) ∧ w.grownBy w' (some bs) := by
  have HS : Hid (StepIs _ _ _ _ _ _ _ _ _ _ _ _ _ _ _ _) := h
  have kf := h.facts
  have HR : Hid (Rd _ _ _) := hr
  have HL : Hid (st.length = n) := hl
  have HC : Hid (CpuR pc st) := hc
  have H8 : Hid (n ≠ 8) := h8
  have HQ : Hid (w.cell? ⟨bs, 12, none⟩ = some (.int .i64 a) ∧ w.cell? ⟨bs, 13, none⟩ = some (.int .i64 b)) := ⟨kf.2.2.2.2.2.2.2.2.2.2.2.2.1, kf.2.2.2.2.2.2.2.2.2.2.2.2.2.1⟩
  clear h hr hl hc h8
  go_enter Try.func86, Try.ntmps86
  go_wp2_with fail
  clear kf
  go_region_held3 (fun w' => w'.cell? ⟨bs, 12, none⟩ = some (.int .i64 a) ∧ w'.cell? ⟨bs, 13, none⟩ = some (.int .i64 b)) (first | (exact HQ1.out) | (exact HQ.out)) (first | (go_at_call 97; refine (putY _ bs g n cp st X op arg t f s pc av k po nu tr a b HS.out.drew HR.out.drew HL.out HC.out H8.out).mono ?_; rintro e w1 ⟨rfl, g', c', h1, hown, hg⟩; have HQ1 : Hid (w1.cell? ⟨bs, 12, none⟩ = some (.int .i64 a) ∧ w1.cell? ⟨bs, 13, none⟩ = some (.int .i64 b)) := ⟨h1.facts.2.2.2.2.2.2.2.2.2.2.2.2.1, h1.facts.2.2.2.2.2.2.2.2.2.2.2.2.2.1⟩; have H1 : Hid (StepIs _ _ _ _ _ _ _ _ _ _ _ _ _ _ _ _) := h1; have HO : Hid (OwnN _ _ _ _ _ _) := hown; have HG : Hid (w.grownBy w1 _) := grown_undrew hg; clear h1 hown hg))
  go_wp2
  go_end0
  exact ⟨rfl, g', c', H1.out, HO.out, HG.out⟩

set_option maxRecDepth 100000 in
set_option maxHeartbeats 2000000 in
theorem subY (w : World) (bs g n cp : Nat) (st : List Int) (op arg t f s pc : Int) (av : Value) (k po nu tr a b : Int) (X : Int) (hX : IntKind.i64.wrap (a - b) = X) (h : StepIs w bs op arg t f s pc (.slice (some ⟨g, 0, none⟩) n cp) av k po nu tr a b) (hr : Rd w (some ⟨g, 0, none⟩) st) (hl : st.length = n) (hc : CpuR pc st) (h8 : n ≠ 8) :
    Calls Try.prog 87 #[.pointer (some ⟨bs, 0, none⟩)] w fun e w' => e = .returned (.tuple #[]) ∧ ∃ g' c', StepIs w' bs op arg t f s pc (.slice (some ⟨g', 0, none⟩) (n + 1) c') av k po nu tr a b ∧ OwnN w' w.heap.size g' (n + 1) c' (st ++ [X % 65536]) ∧ w.grownBy w' (some bs) := by
  have HS : Hid (StepIs _ _ _ _ _ _ _ _ _ _ _ _ _ _ _ _) := h
  have kf := h.facts
  have HR : Hid (Rd _ _ _) := hr
  have HL : Hid (st.length = n) := hl
  have HC : Hid (CpuR pc st) := hc
  have H8 : Hid (n ≠ 8) := h8
  have HQ : Hid (w.cell? ⟨bs, 12, none⟩ = some (.int .i64 a) ∧ w.cell? ⟨bs, 13, none⟩ = some (.int .i64 b)) := ⟨kf.2.2.2.2.2.2.2.2.2.2.2.2.1, kf.2.2.2.2.2.2.2.2.2.2.2.2.2.1⟩
  clear h hr hl hc h8
  go_enter Try.func87, Try.ntmps87
  go_wp2_with fail
  clear kf
  go_region_held3 (fun w' => w'.cell? ⟨bs, 12, none⟩ = some (.int .i64 a) ∧ w'.cell? ⟨bs, 13, none⟩ = some (.int .i64 b)) (first | (exact HQ1.out) | (exact HQ.out)) (first | (go_at_call 97; refine (putY _ bs g n cp st X op arg t f s pc av k po nu tr a b HS.out.drew HR.out.drew HL.out HC.out H8.out).mono ?_; rintro e w1 ⟨rfl, g', c', h1, hown, hg⟩; have HQ1 : Hid (w1.cell? ⟨bs, 12, none⟩ = some (.int .i64 a) ∧ w1.cell? ⟨bs, 13, none⟩ = some (.int .i64 b)) := ⟨h1.facts.2.2.2.2.2.2.2.2.2.2.2.2.1, h1.facts.2.2.2.2.2.2.2.2.2.2.2.2.2.1⟩; have H1 : Hid (StepIs _ _ _ _ _ _ _ _ _ _ _ _ _ _ _ _) := h1; have HO : Hid (OwnN _ _ _ _ _ _) := hown; have HG : Hid (w.grownBy w1 _) := grown_undrew hg; clear h1 hown hg))
  go_wp2
  go_end0
  exact ⟨rfl, g', c', H1.out, HO.out, HG.out⟩

set_option maxRecDepth 100000 in
set_option maxHeartbeats 2000000 in
theorem mulY (w : World) (bs g n cp : Nat) (st : List Int) (op arg t f s pc : Int) (av : Value) (k po nu tr a b : Int) (X : Int) (hX : IntKind.i64.wrap (a * b) = X) (h : StepIs w bs op arg t f s pc (.slice (some ⟨g, 0, none⟩) n cp) av k po nu tr a b) (hr : Rd w (some ⟨g, 0, none⟩) st) (hl : st.length = n) (hc : CpuR pc st) (h8 : n ≠ 8) :
    Calls Try.prog 88 #[.pointer (some ⟨bs, 0, none⟩)] w fun e w' => e = .returned (.tuple #[]) ∧ ∃ g' c', StepIs w' bs op arg t f s pc (.slice (some ⟨g', 0, none⟩) (n + 1) c') av k po nu tr a b ∧ OwnN w' w.heap.size g' (n + 1) c' (st ++ [X % 65536]) ∧ w.grownBy w' (some bs) := by
  have HS : Hid (StepIs _ _ _ _ _ _ _ _ _ _ _ _ _ _ _ _) := h
  have kf := h.facts
  have HR : Hid (Rd _ _ _) := hr
  have HL : Hid (st.length = n) := hl
  have HC : Hid (CpuR pc st) := hc
  have H8 : Hid (n ≠ 8) := h8
  have HQ : Hid (w.cell? ⟨bs, 12, none⟩ = some (.int .i64 a) ∧ w.cell? ⟨bs, 13, none⟩ = some (.int .i64 b)) := ⟨kf.2.2.2.2.2.2.2.2.2.2.2.2.1, kf.2.2.2.2.2.2.2.2.2.2.2.2.2.1⟩
  clear h hr hl hc h8
  go_enter Try.func88, Try.ntmps88
  go_wp2_with fail
  clear kf
  go_region_held3 (fun w' => w'.cell? ⟨bs, 12, none⟩ = some (.int .i64 a) ∧ w'.cell? ⟨bs, 13, none⟩ = some (.int .i64 b)) (first | (exact HQ1.out) | (exact HQ.out)) (first | (go_at_call 97; refine (putY _ bs g n cp st X op arg t f s pc av k po nu tr a b HS.out.drew HR.out.drew HL.out HC.out H8.out).mono ?_; rintro e w1 ⟨rfl, g', c', h1, hown, hg⟩; have HQ1 : Hid (w1.cell? ⟨bs, 12, none⟩ = some (.int .i64 a) ∧ w1.cell? ⟨bs, 13, none⟩ = some (.int .i64 b)) := ⟨h1.facts.2.2.2.2.2.2.2.2.2.2.2.2.1, h1.facts.2.2.2.2.2.2.2.2.2.2.2.2.2.1⟩; have H1 : Hid (StepIs _ _ _ _ _ _ _ _ _ _ _ _ _ _ _ _) := h1; have HO : Hid (OwnN _ _ _ _ _ _) := hown; have HG : Hid (w.grownBy w1 _) := grown_undrew hg; clear h1 hown hg))
  go_wp2
  go_end0
  exact ⟨rfl, g', c', H1.out, HO.out, HG.out⟩

set_option maxRecDepth 100000 in
set_option maxHeartbeats 2000000 in
theorem divY (w : World) (bs g n cp : Nat) (st : List Int) (op arg t f s pc : Int) (av : Value) (k po nu tr a b : Int) (X : Int) (hX : IntKind.i64.wrap (a.tdiv b) = X) (hb0 : ¬ b = 0) (h : StepIs w bs op arg t f s pc (.slice (some ⟨g, 0, none⟩) n cp) av k po nu tr a b) (hr : Rd w (some ⟨g, 0, none⟩) st) (hl : st.length = n) (hc : CpuR pc st) (h8 : n ≠ 8) :
    Calls Try.prog 89 #[.pointer (some ⟨bs, 0, none⟩)] w fun e w' => e = .returned (.tuple #[]) ∧ ∃ g' c', StepIs w' bs op arg t f s pc (.slice (some ⟨g', 0, none⟩) (n + 1) c') av k po nu tr a b ∧ OwnN w' w.heap.size g' (n + 1) c' (st ++ [X % 65536]) ∧ w.grownBy w' (some bs) := by
  have HS : Hid (StepIs _ _ _ _ _ _ _ _ _ _ _ _ _ _ _ _) := h
  have kf := h.facts
  have HR : Hid (Rd _ _ _) := hr
  have HL : Hid (st.length = n) := hl
  have HC : Hid (CpuR pc st) := hc
  have H8 : Hid (n ≠ 8) := h8
  have HQ : Hid (w.cell? ⟨bs, 12, none⟩ = some (.int .i64 a) ∧ w.cell? ⟨bs, 13, none⟩ = some (.int .i64 b)) := ⟨kf.2.2.2.2.2.2.2.2.2.2.2.2.1, kf.2.2.2.2.2.2.2.2.2.2.2.2.2.1⟩
  clear h hr hl hc h8
  go_enter Try.func89, Try.ntmps89
  go_wp2_with fail
  clear kf
  go_region_held3 (fun w' => w'.cell? ⟨bs, 12, none⟩ = some (.int .i64 a) ∧ w'.cell? ⟨bs, 13, none⟩ = some (.int .i64 b)) (first | (exact HQ1.out) | (exact HQ.out)) (first | (go_at_call 97; refine (putY _ bs g n cp st X op arg t f s pc av k po nu tr a b HS.out.drew HR.out.drew HL.out HC.out H8.out).mono ?_; rintro e w1 ⟨rfl, g', c', h1, hown, hg⟩; have HQ1 : Hid (w1.cell? ⟨bs, 12, none⟩ = some (.int .i64 a) ∧ w1.cell? ⟨bs, 13, none⟩ = some (.int .i64 b)) := ⟨h1.facts.2.2.2.2.2.2.2.2.2.2.2.2.1, h1.facts.2.2.2.2.2.2.2.2.2.2.2.2.2.1⟩; have H1 : Hid (StepIs _ _ _ _ _ _ _ _ _ _ _ _ _ _ _ _) := h1; have HO : Hid (OwnN _ _ _ _ _ _) := hown; have HG : Hid (w.grownBy w1 _) := grown_undrew hg; clear h1 hown hg))
  go_wp2
  go_end0
  exact ⟨rfl, g', c', H1.out, HO.out, HG.out⟩

set_option maxRecDepth 100000 in
set_option maxHeartbeats 1000000 in
theorem divN (w : World) (bs : Nat) (op arg t f s pc : Int) (sv av : Value) (k po nu tr a : Int) (h : StepIs w bs op arg t f s pc sv av k po nu tr a 0) :
    Calls Try.prog 89 #[.pointer (some ⟨bs, 0, none⟩)] w fun e w' => e = .returned (.tuple #[]) ∧ StepIs w' bs op arg t f s pc sv av 0 0 0 3 a 0 ∧ w.grownBy w' (some bs) := by
  have HS : Hid (StepIs _ _ _ _ _ _ _ _ _ _ _ _ _ _ _ _) := h
  have kf := h.facts
  clear h
  go_enter Try.func89, Try.ntmps89
  go_wp2_with fail
  clear kf
  refine (trapI w bs op arg t f s pc sv av k po nu tr a 0 3 HS.out).mono ?_
  rintro e w1 ⟨rfl, h1, hg⟩
  have H1 : Hid (StepIs _ _ _ _ _ _ _ _ _ _ _ _ _ _ _ _) := h1
  have HG : Hid (w.grownBy w1 _) := hg
  clear h1 hg
  go_wp2
  refine bodyPost_ret (v := .tuple #[]) (by simp [results, Try.results89, go_sem]) rfl ⟨rfl, H1.out, HG.out⟩

set_option maxRecDepth 100000 in
set_option maxHeartbeats 2000000 in
theorem lessY (w : World) (bs g n cp : Nat) (st : List Int) (op arg t f s pc : Int) (av : Value) (k po nu tr a b : Int) (X : Int) (hX : (if a < b then 1 else 0) = X) (h : StepIs w bs op arg t f s pc (.slice (some ⟨g, 0, none⟩) n cp) av k po nu tr a b) (hr : Rd w (some ⟨g, 0, none⟩) st) (hl : st.length = n) (hc : CpuR pc st) (h8 : n ≠ 8) :
    Calls Try.prog 90 #[.pointer (some ⟨bs, 0, none⟩)] w fun e w' => e = .returned (.tuple #[]) ∧ ∃ g' c', StepIs w' bs op arg t f s pc (.slice (some ⟨g', 0, none⟩) (n + 1) c') av k po nu tr a b ∧ OwnN w' w.heap.size g' (n + 1) c' (st ++ [X % 65536]) ∧ w.grownBy w' (some bs) := by
  have HS : Hid (StepIs _ _ _ _ _ _ _ _ _ _ _ _ _ _ _ _) := h
  have kf := h.facts
  have HR : Hid (Rd _ _ _) := hr
  have HL : Hid (st.length = n) := hl
  have HC : Hid (CpuR pc st) := hc
  have H8 : Hid (n ≠ 8) := h8
  clear h hr hl hc h8
  by_cases hab : a < b
  · obtain rfl : 1 = X := by rw [if_pos hab] at hX; exact hX
    clear hX
    go_enter Try.func90, Try.ntmps90
    go_wp2_with fail
    go_quiet (fail)
    clear kf
    go_wp2_with fail
    refine (putY _ bs g n cp st 1 op arg t f s pc av k po nu tr a b (StepIs.drewN HS.out nq) (rd_drewN HR.out nq) HL.out HC.out H8.out).mono ?_
    rintro e w1 ⟨rfl, g', c', h1, hown, hg⟩
    have H1 : Hid (StepIs _ _ _ _ _ _ _ _ _ _ _ _ _ _ _ _) := h1
    have HO : Hid (OwnN _ _ _ _ _ _) := hown
    have HG : Hid (w.grownBy w1 _) := grown_trans' (below_grown (below_drewN (Below.refl _ _) nq)) hg
    clear h1 hown hg
    go_wp2
    go_end0
    exact ⟨rfl, g', c', H1.out, HO.out, HG.out⟩
  · obtain rfl : 0 = X := by rw [if_neg hab] at hX; exact hX
    clear hX
    go_enter Try.func90, Try.ntmps90
    go_wp2_with fail
    go_quiet (fail)
    clear kf
    go_wp2_with fail
    refine (putY _ bs g n cp st 0 op arg t f s pc av k po nu tr a b (StepIs.drewN HS.out nq) (rd_drewN HR.out nq) HL.out HC.out H8.out).mono ?_
    rintro e w1 ⟨rfl, g', c', h1, hown, hg⟩
    have H1 : Hid (StepIs _ _ _ _ _ _ _ _ _ _ _ _ _ _ _ _) := h1
    have HO : Hid (OwnN _ _ _ _ _ _) := hown
    have HG : Hid (w.grownBy w1 _) := grown_trans' (below_grown (below_drewN (Below.refl _ _) nq)) hg
    clear h1 hown hg
    go_wp2
    go_end0
    exact ⟨rfl, g', c', H1.out, HO.out, HG.out⟩

set_option maxRecDepth 100000 in
set_option maxHeartbeats 1000000 in
theorem jumpY (w : World) (bs : Nat) (op arg t f s pc : Int) (sv av : Value) (k po nu tr a b X : Int) (hX : min arg 60 = X) (h : StepIs w bs op arg t f s pc sv av k po nu tr a b) :
    Calls Try.prog 91 #[.pointer (some ⟨bs, 0, none⟩)] w fun e w' => e = .returned (.tuple #[]) ∧ StepIs w' bs op arg t f s X sv av k po nu tr a b ∧ w.grownBy w' (some bs) := by
  have HS : Hid (StepIs _ _ _ _ _ _ _ _ _ _ _ _ _ _ _ _) := h
  have kf := h.facts
  clear h
  by_cases h60 : arg ≤ 60
  · obtain rfl : arg = X := by omega
    clear hX
    go_enter Try.func91, Try.ntmps91
    go_wp2
    go_end0
    exact ⟨rfl, HS.out.setPc _, grown_put _ _ _ _⟩
  · obtain rfl : 60 = X := by omega
    clear hX
    go_enter Try.func91, Try.ntmps91
    go_wp2
    go_end0
    exact ⟨rfl, HS.out.setPc _, grown_put _ _ _ _⟩
set_option maxRecDepth 100000 in
set_option maxHeartbeats 1000000 in
theorem zeroY (w : World) (bs : Nat) (op arg t f s pc : Int) (sv av : Value) (k po nu tr a b X : Int) (hX : (if a = 0 then min arg 60 else pc) = X) (h : StepIs w bs op arg t f s pc sv av k po nu tr a b) :
    Calls Try.prog 92 #[.pointer (some ⟨bs, 0, none⟩)] w fun e w' => e = .returned (.tuple #[]) ∧ StepIs w' bs op arg t f s X sv av k po nu tr a b ∧ w.grownBy w' (some bs) := by
  have HS : Hid (StepIs _ _ _ _ _ _ _ _ _ _ _ _ _ _ _ _) := h
  have kf := h.facts
  clear h
  by_cases ha : a = 0
  · have HX : Hid (min arg 60 = X) := by rw [if_pos ha] at hX; exact hX
    clear hX
    go_enter Try.func92, Try.ntmps92
    go_wp2_with fail
    clear kf
    refine (jumpY w bs op arg t f s pc sv av k po nu tr a b X HX.out HS.out).mono ?_
    rintro e w1 ⟨rfl, h1, hg⟩
    have H1 : Hid (StepIs _ _ _ _ _ _ _ _ _ _ _ _ _ _ _ _) := h1
    have HG : Hid (w.grownBy w1 _) := hg
    clear h1 hg
    go_wp2
    go_end0
    exact ⟨rfl, H1.out, HG.out⟩
  · obtain rfl : pc = X := by rw [if_neg ha] at hX; exact hX
    clear hX
    go_enter Try.func92, Try.ntmps92
    go_wp2
    go_end0
    exact ⟨rfl, HS.out, World.grownBy.refl _ _⟩
set_option maxRecDepth 100000 in
set_option maxHeartbeats 1000000 in
theorem nothingY (w : World) (p : Value) : Calls Try.prog 82 #[p] w fun e w' => e = .returned (.tuple #[]) ∧ w' = w := by
  go_enter Try.func82, Try.ntmps82
  go_wp2
  go_end0
  exact ⟨rfl, rfl⟩

theorem cpuR_snoc {pc x : Int} {st : List Int} (h : CpuR pc st) (h8 : st.length ≠ 8) (hx : isW x) : CpuR pc (st ++ [x]) := by
  refine ⟨by have := h.1; simp; omega, h.2.1, fun i hi => ?_⟩
  by_cases e : i < st.length
  · rw [List.getElem_append_left e]; exact h.2.2 i e
  · have : i = st.length := by simp at hi; omega
    subst this
    rw [List.getElem_concat_length rfl]; exact hx
theorem isW_mod (x : Int) : isW (x % 65536) := by unfold isW; omega

set_option maxRecDepth 100000 in
set_option maxHeartbeats 1000000 in
theorem dupY (w : World) (bs g n cp : Nat) (st : List Int) (op arg t f s pc : Int) (av : Value) (k po nu tr a b : Int) (h : StepIs w bs op arg t f s pc (.slice (some ⟨g, 0, none⟩) n cp) av k po nu tr a b) (hr : Rd w (some ⟨g, 0, none⟩) st) (hl : st.length = n) (hc : CpuR pc st) (h8 : n ≠ 8) (h7 : n + 1 ≠ 8) :
    Calls Try.prog 93 #[.pointer (some ⟨bs, 0, none⟩)] w fun e w' => e = .returned (.tuple #[]) ∧ ∃ g' c', StepIs w' bs op arg t f s pc (.slice (some ⟨g', 0, none⟩) (n + 1 + 1) c') av k po nu tr a b ∧ OwnN w' w.heap.size g' (n + 1 + 1) c' (st ++ [a % 65536] ++ [a % 65536]) ∧ w.grownBy w' (some bs) := by
  have HS : Hid (StepIs _ _ _ _ _ _ _ _ _ _ _ _ _ _ _ _) := h
  have kf := h.facts
  have HR : Hid (Rd _ _ _) := hr
  have HL : Hid (st.length = n) := hl
  have HC : Hid (CpuR pc st) := hc
  have H8 : Hid (n ≠ 8) := h8
  have H7 : Hid (n + 1 ≠ 8) := h7
  have HC2 : Hid (CpuR pc (st ++ [a % 65536])) := cpuR_snoc hc (by omega) (isW_mod a)
  clear h hr hl hc h8 h7
  go_enter Try.func93, Try.ntmps93
  go_wp2_with fail
  clear kf
  refine (putY w bs g n cp st a op arg t f s pc av k po nu tr a b HS.out HR.out HL.out HC.out H8.out).mono ?_
  rintro e w1 ⟨rfl, g', c', h1, hown, hg⟩
  have H1 : Hid (StepIs _ _ _ _ _ _ _ _ _ _ _ _ _ _ _ _) := h1
  have HO : Hid (OwnN _ _ _ _ _ _) := hown
  have HG : Hid (w.grownBy w1 _) := hg
  have kf := h1.facts
  clear h1 hown hg
  go_wp2_with fail
  clear kf
  refine (putY w1 bs g' (n + 1) c' (st ++ [a % 65536]) a op arg t f s pc av k po nu tr a b H1.out HO.out.rd HO.out.len HC2.out H7.out).mono ?_
  rintro e w2 ⟨rfl, g'', c'', h1, hown, hg⟩
  have H2 : Hid (StepIs _ _ _ _ _ _ _ _ _ _ _ _ _ _ _ _) := h1
  have HO2 : Hid (OwnN _ _ _ _ _ _) := hown.mono HG.out.size
  have HG2 : Hid (w.grownBy w2 _) := grown_trans' HG.out hg
  clear h1 hown hg
  go_wp2
  go_end0
  exact ⟨rfl, g'', c'', H2.out, HO2.out, HG2.out⟩
set_option maxRecDepth 100000 in
set_option maxHeartbeats 1000000 in
theorem dupN (w : World) (bs g n cp : Nat) (st : List Int) (op arg t f s pc : Int) (av : Value) (k po nu tr a b : Int) (h : StepIs w bs op arg t f s pc (.slice (some ⟨g, 0, none⟩) n cp) av k po nu tr a b) (hr : Rd w (some ⟨g, 0, none⟩) st) (hl : st.length = n) (hc : CpuR pc st) (h8 : n ≠ 8) (h7 : n + 1 = 8) :
    Calls Try.prog 93 #[.pointer (some ⟨bs, 0, none⟩)] w fun e w' => e = .returned (.tuple #[]) ∧ (∃ sv', StepIs w' bs op arg t f s pc sv' av 0 0 0 4 a b) ∧ w.grownBy w' (some bs) := by
  have HS : Hid (StepIs _ _ _ _ _ _ _ _ _ _ _ _ _ _ _ _) := h
  have kf := h.facts
  have HR : Hid (Rd _ _ _) := hr
  have HL : Hid (st.length = n) := hl
  have HC : Hid (CpuR pc st) := hc
  have H8 : Hid (n ≠ 8) := h8
  have H7 : Hid (n + 1 = 8) := h7
  clear h hr hl hc h8 h7
  go_enter Try.func93, Try.ntmps93
  go_wp2_with fail
  clear kf
  refine (putY w bs g n cp st a op arg t f s pc av k po nu tr a b HS.out HR.out HL.out HC.out H8.out).mono ?_
  rintro e w1 ⟨rfl, g', c', h1, hown, hg⟩
  have H1 : Hid (StepIs _ _ _ _ _ _ _ _ _ _ _ _ _ _ _ _) := h1
  have HO : Hid (OwnN _ _ _ _ _ _) := hown
  have HG : Hid (w.grownBy w1 _) := hg
  have kf := h1.facts
  clear h1 hown hg
  go_wp2_with fail
  clear kf
  refine (putN w1 bs g' (n + 1) c' (st ++ [a % 65536]) a op arg t f s pc av k po nu tr a b H1.out HO.out.rd HO.out.len H7.out).mono ?_
  rintro e w2 ⟨rfl, h1, hg⟩
  have H2 : Hid (StepIs _ _ _ _ _ _ _ _ _ _ _ _ _ _ _ _) := h1
  have HG2 : Hid (w.grownBy w2 _) := grown_trans' HG.out hg
  clear h1 hg
  go_wp2
  go_end0
  exact ⟨rfl, ⟨_, H2.out⟩, HG2.out⟩

set_option maxRecDepth 100000 in
set_option maxHeartbeats 2000000 in
theorem tellY (w : World) (bs : Nat) (op arg t f s pc : Int) (sv av : Value) (k po nu tr a b : Int) (h : StepIs w bs op arg t f s pc sv av k po nu tr a b) :
    Calls Try.prog 94 #[.pointer (some ⟨bs, 0, none⟩)] w fun e w' => e = .returned (.tuple #[]) ∧ StepIs w' bs op arg t f s pc sv av op arg a 0 a b ∧ w.grownBy w' (some bs) := by
  have HS : Hid (StepIs _ _ _ _ _ _ _ _ _ _ _ _ _ _ _ _) := h
  have kf := h.facts
  have HQ : Hid (w.cell? ⟨bs, 0, none⟩ = some (.int .i64 op) ∧ w.cell? ⟨bs, 1, none⟩ = some (.int .i64 arg) ∧ w.cell? ⟨bs, 12, none⟩ = some (.int .i64 a)) := ⟨kf.1, kf.2.1, kf.2.2.2.2.2.2.2.2.2.2.2.2.1⟩
  have HE : Hid (StepIs _ _ _ _ _ _ _ _ _ _ _ _ _ _ _ _) := (h.drew).setE op arg a 0
  have HQ1 : Hid (_ ∧ _ ∧ _) := ⟨HE.out.facts.1, HE.out.facts.2.1, HE.out.facts.2.2.2.2.2.2.2.2.2.2.2.2.1⟩
  clear h
  go_enter Try.func94, Try.ntmps94
  go_wp2_with fail
  go_region_held3 (fun w' => w'.cell? ⟨bs, 0, none⟩ = some (.int .i64 op) ∧ w'.cell? ⟨bs, 1, none⟩ = some (.int .i64 arg) ∧ w'.cell? ⟨bs, 12, none⟩ = some (.int .i64 a)) (first | (exact HQ1.out) | (exact HQ.out)) (fail)
  go_wp2
  go_end0
  exact ⟨rfl, HE.out, grown_drew (grown_put4 _ _ _ _ _ _ _ _ _ _)⟩
end Go.Proofs.Ythnocibkgpofnaa
