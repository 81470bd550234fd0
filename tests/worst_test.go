package tests

import (
	"math"
	"slices"
	"strings"
	"testing"

	"loop.example/g00200/impl"
)

// codeOf reads instructions that stand between semicolons.
func codeOf(t *testing.T, text string) []impl.Instr {
	t.Helper()
	code, fault := impl.Assemble(strings.ReplaceAll(text, ";", "\n"))
	if fault != 0 {
		t.Fatalf("%q is no code: line %d", text, fault)
	}
	return code
}

// withPushes is so many instructions that put a number, and what follows them.
func withPushes(pushes int, text string) string {
	return strings.Repeat("push 9;", pushes) + text
}

func costIn(op int) int {
	if op < 0 || op > 17 {
		return 1
	}
	return ops()[op].cost
}

func tellForward(code []impl.Instr) bool {
	if !(stepping{code: code}).isRight() {
		return false
	}
	for at, one := range code {
		jumps := one.Op == impl.OpJump || one.Op == impl.OpZero
		if jumps && !(one.Arg > at || one.Arg >= len(code)) {
			return false
		}
	}
	return true
}

// dearestWay goes every way from a place on; dearest keeps what it found, since there may be very many ways.
func dearestWay(code []impl.Instr, at int, dearest map[int]int) int {
	if at >= len(code) {
		return 0
	}
	if cost, ok := dearest[at]; ok {
		return cost
	}
	one := code[at]
	var places []int
	switch one.Op {
	case impl.OpEnd:
	case impl.OpJump:
		places = []int{one.Arg}
	case impl.OpZero:
		places = []int{at + 1, one.Arg}
	default:
		places = []int{at + 1}
	}
	behind := 0
	for _, place := range places {
		behind = max(behind, dearestWay(code, place, dearest))
	}
	dearest[at] = costIn(one.Op) + behind
	return dearest[at]
}

func tellWorst(code []impl.Instr) (int, bool) {
	if !tellForward(code) {
		return 0, false
	}
	return dearestWay(code, 0, map[int]int{}), true
}

// tellRun goes by the tests' own telling of a step, not by the program's.
func tellRun(code []impl.Instr, cells []int, r impl.Region, most int) (int, int) {
	s := stepping{code: code, cells: cells, region: r}
	cost := 0
	for s.pc < len(code) {
		op := code[s.pc].Op
		if cost+costIn(op) > min(most, 5000) {
			return cost, 0
		}
		cost += costIn(op)
		after := tellStep(s)
		if after.effect.Trap != 0 {
			return cost, after.effect.Trap
		}
		if op == impl.OpEnd {
			return cost, 0
		}
		s.pc, s.stack, s.cells = after.cpu.Pc, after.cpu.Stack, after.arena.Cells
		answers := map[int]int{impl.OpSend: 1, impl.OpIn: 1, impl.OpTake: 2}[op]
		s.stack = append(slices.Clone(s.stack), make([]int, answers)...)
		if len(s.stack) > 8 {
			return cost, impl.TrapOver
		}
	}
	return cost, 0
}

func wantForward(t *testing.T, code []impl.Instr, want bool) {
	t.Helper()
	if got := impl.Forward(code); got != want {
		t.Fatalf("Forward of %d instructions (%.200v) = %v", len(code), code, got)
	}
}

func wantWorst(t *testing.T, code []impl.Instr, cost int, ok bool) {
	t.Helper()
	if gotCost, gotOk := impl.WorstCost(code); gotCost != cost || gotOk != ok {
		t.Fatalf("WorstCost of %d instructions (%.200v) = %d, %v, want %d, %v", len(code), code, gotCost, gotOk, cost, ok)
	}
}

func wantRun(t *testing.T, code []impl.Instr, cells []int, r impl.Region, most int, cost int, trap int) {
	t.Helper()
	gotCost, gotTrap := impl.RunCost(code, impl.Arena{Cells: cells}, r, most)
	if gotCost != cost || gotTrap != trap {
		t.Fatalf("RunCost of %d instructions (%.200v), %d cells, %v and most %d = %d, %d, want %d, %d", len(code), code, len(cells), r, most, gotCost, gotTrap, cost, trap)
	}
}

// wantAllAsTold holds all three functions against what the tests tell, and a run without loops against its worst.
func wantAllAsTold(t *testing.T, code []impl.Instr, cells []int, r impl.Region, most int) {
	t.Helper()
	wantForward(t, code, tellForward(code))
	worst, ok := tellWorst(code)
	wantWorst(t, code, worst, ok)
	cost, trap := tellRun(code, cells, r, most)
	wantRun(t, code, cells, r, most, cost, trap)
	if got, _ := impl.RunCost(code, impl.Arena{Cells: cells}, r, most); ok && got > worst {
		t.Fatalf("a run of %v costs %d, at most %d", code, got, worst)
	}
}

func TestForwardOfCodeWithoutJumps(t *testing.T) {
	wantForward(t, nil, true)
	wantForward(t, []impl.Instr{}, true)
	for op := range 256 {
		if op == impl.OpJump || op == impl.OpZero {
			continue
		}
		// An Arg of another Op tells no place, be it below where it stands or not.
		for _, arg := range []int{0, 1, 30, 59, 60, 255} {
			for _, size := range []int{1, 2, 59, 60} {
				wantForward(t, slices.Repeat(alone(op, arg), size), true)
			}
			for _, size := range []int{61, 62, 120} {
				wantForward(t, slices.Repeat(alone(op, arg), size), false)
			}
		}
	}
}

func TestForwardOfJumpsFromEveryPlace(t *testing.T) {
	for _, op := range []int{impl.OpJump, impl.OpZero} {
		for _, size := range []int{1, 2, 3, 31, 59, 60} {
			for at := range size {
				code := slices.Repeat(alone(impl.OpPush, 0), size)
				for arg := range 256 {
					code[at] = impl.Instr{Op: op, Arg: arg}
					wantForward(t, code, arg > at)
				}
			}
		}
	}
}

func TestForwardOfSomeCode(t *testing.T) {
	for _, c := range []struct {
		text string
		want bool
	}{
		{"jump", false}, {"zero", false}, {"jump 1", true}, {"zero 1", true}, {"jump 2", true}, {"zero 255", true}, {"jump 60", true}, {"jump 61", true},
		{"push;jump 0", false}, {"push;jump 1", false}, {"push;jump 2", true}, {"push;zero 0", false}, {"push;zero 1", false}, {"push;zero 2", true},
		{"jump 1;jump 2;jump 3", true}, {"jump 2;jump 2;jump 3", true}, {"jump 2;jump 1;jump 3", false}, {"jump 2;jump 3;jump 2", false}, {"zero 3;zero 3;zero 3", true}, {"zero 3;zero 3;zero 2", false},
		// It doesn't matter whether a jump is ever come to.
		{"end;jump 0", false}, {"end;zero 1", false}, {"jump 2;jump 0;end", false}, {"end;jump 2", true},
	} {
		wantForward(t, codeOf(t, c.text), c.want)
	}
}

func TestForwardRefusesCodeThatIsNotRight(t *testing.T) {
	for _, code := range wrongCodes() {
		wantForward(t, code, false)
	}
	for _, size := range []int{1, 2, 59, 60} {
		for _, at := range []int{0, size - 1} {
			for _, one := range []impl.Instr{{Op: 255}, {Arg: 255}, {Op: 255, Arg: 255}, {Op: impl.OpJump, Arg: 255}, {Op: impl.OpZero, Arg: 255}} {
				code := slices.Repeat(alone(impl.OpPush, 3), size)
				code[at] = one
				wantForward(t, code, true)
			}
			for _, n := range noBytes {
				for _, one := range []impl.Instr{{Op: n}, {Arg: n}, {Op: n, Arg: n}, {Op: impl.OpJump, Arg: n}, {Op: impl.OpZero, Arg: n}} {
					code := slices.Repeat(alone(impl.OpPush, 3), size)
					code[at] = one
					wantForward(t, code, false)
					wantWorst(t, code, 0, false)
				}
			}
		}
	}
}

func TestWorstCostOfOneInstruction(t *testing.T) {
	wantWorst(t, nil, 0, true)
	wantWorst(t, []impl.Instr{}, 0, true)
	for op := range 256 {
		for _, arg := range []int{1, 2, 59, 60, 61, 255} {
			wantWorst(t, alone(op, arg), costIn(op), true)
		}
	}
	for op := range 256 {
		if op != impl.OpJump && op != impl.OpZero {
			wantWorst(t, alone(op, 0), costIn(op), true)
		}
	}
}

// Written out by hand: which way is the dearest one.
func TestWorstCostOfSomeCode(t *testing.T) {
	for _, c := range []struct {
		text string
		want int
	}{
		{"", 0}, {"end", 1}, {"push;end", 2}, {"push;push", 2}, {"mul;div", 6}, {"load;store;in;out", 8}, {"send;take", 8}, {"add;sub;less;dup;drop;time", 6},
		// What stands behind an OpEnd is not come to.
		{"end;mul", 1}, {"end;end", 1}, {"push;end;take;take", 2}, {"mul;end;take", 4},
		// What a jump goes over is not come to, be it dear or cheap.
		{"jump 1;mul", 4}, {"jump 2;mul", 1}, {"jump 2;mul;end", 2}, {"jump 2;end;mul", 4}, {"jump 3;take;take;end", 2}, {"jump 3;add;add;take", 5}, {"jump 3;take;take;end;take", 2}, {"jump 2;end;jump 4;end;take", 6},
		// Beyond the end there is nothing more to pay.
		{"jump 1", 1}, {"jump 2;take", 1}, {"jump 3;take", 1}, {"jump 255;take;end", 1}, {"jump 60;take", 1}, {"jump 61;take", 1}, {"zero 255", 1}, {"zero 255;take", 5}, {"zero 60;end", 2}, {"zero 2;take", 5},
		// OpZero goes the dearer way of the two.
		{"zero 1;mul", 4}, {"zero 2;mul;add", 5}, {"zero 3;mul;end;add;end", 5}, {"zero 3;add;end;mul;end", 5}, {"zero 3;end;end;mul", 4}, {"zero 2;end;take;end", 6}, {"zero 2;jump 4;take;end;end", 6}, {"zero 3;take;jump 4;mul;end", 7}, {"zero 3;add;jump 4;mul;end", 5}, {"push;zero 3;mul;end", 6},
		// OpZero behind OpZero.
		{"zero 1;zero 2;zero 3", 3}, {"zero 2;zero 3;mul;take", 9}, {"zero 3;zero 4;end;add;take", 6}, {"zero 3;zero 5;end;zero 6;end;take;mul", 9}, {"zero 2;zero 255;zero 4;take;end", 8}, {"zero 3;zero 3;zero 3", 3},
		// The dear one of two dear ways, and not both.
		{"zero 3;take;end;take;add", 6}, {"zero 4;take;take;end;take;mul;mul", 11}, {"zero 4;take;take;jump 7;mul;mul;mul", 10},
	} {
		wantWorst(t, codeOf(t, c.text), c.want, true)
	}
}

func TestWorstCostOfLongCode(t *testing.T) {
	for op := range 256 {
		if op == impl.OpEnd || op == impl.OpJump || op == impl.OpZero {
			continue
		}
		for _, size := range []int{2, 30, 59, 60} {
			code := slices.Repeat(alone(op, 0), size)
			wantWorst(t, code, size*costIn(op), true)
			code[size-1].Op = impl.OpEnd
			wantWorst(t, code, (size-1)*costIn(op)+1, true)
			code[size/2].Op = impl.OpEnd
			wantWorst(t, code, size/2*costIn(op)+1, true)
			code[0] = impl.Instr{Op: impl.OpJump, Arg: size - 1}
			wantWorst(t, code, 2, true)
			code[0] = impl.Instr{Op: impl.OpJump, Arg: size}
			wantWorst(t, code, 1, true)
		}
		wantWorst(t, slices.Repeat(alone(op, 0), 61), 0, false)
	}
	// More ways than can be gone one by one.
	zeros := slices.Repeat(alone(impl.OpZero, 0), 60)
	for at := range zeros {
		zeros[at].Arg = at + 2
	}
	wantWorst(t, zeros, 60, true)
	for at := 1; at < 60; at += 2 {
		zeros[at] = impl.Instr{Op: impl.OpTake}
	}
	wantWorst(t, zeros, 30*5, true)
	wantWorst(t, slices.Repeat(alone(impl.OpZero, 255), 60), 60, true)
	wantWorst(t, slices.Repeat(alone(impl.OpJump, 60), 60), 1, true)
}

func TestWorstCostRefuses(t *testing.T) {
	for _, text := range []string{"jump", "zero", "take;jump 0", "take;jump 1", "take;zero 1", "zero 2;jump 1", "end;jump 0", "jump 2;zero 0;end", "take;take;take;zero 3"} {
		wantWorst(t, codeOf(t, text), 0, false)
	}
	for _, code := range wrongCodes() {
		wantWorst(t, code, 0, false)
	}
}

// Written out by hand: how a run is over, and what it costs till then.
func TestRunCostOfSomeCode(t *testing.T) {
	for _, c := range []struct {
		text       string
		cost, trap int
	}{
		// OpEnd.
		{"end", 1, 0}, {"push;end", 2, 0}, {"push;end;add", 2, 0}, {"jump 2;add;end;add", 2, 0},
		// No instruction any more.
		{"", 0, 0}, {"push", 1, 0}, {"push 3;push 4;mul", 5, 0}, {"jump 1", 1, 0}, {"jump 2;add", 1, 0}, {"jump 60", 1, 0}, {"jump 61", 1, 0}, {"jump 255", 1, 0}, {"push;zero 3;add", 2, 0}, {"push;zero 255;add", 2, 0},
		// The two ways of OpZero.
		{"push 0;zero 3;mul;end", 3, 0}, {"push 1;zero 4;push 1;end;take;end", 4, 0}, {"push 0;zero 4;push 1;end;take;end", 7, 0},
		// A trap at the first, the second and a later instruction.
		{"add", 1, impl.TrapUnder}, {"sub;end", 1, impl.TrapUnder}, {"mul", 3, impl.TrapUnder}, {"div", 3, impl.TrapUnder}, {"less", 1, impl.TrapUnder}, {"load", 2, impl.TrapUnder}, {"store", 2, impl.TrapUnder}, {"zero 9", 1, impl.TrapUnder}, {"dup", 1, impl.TrapUnder}, {"drop", 1, impl.TrapUnder}, {"send", 4, impl.TrapUnder}, {"out", 2, impl.TrapUnder},
		{"push;add", 2, impl.TrapUnder}, {"push;mul;end", 4, impl.TrapUnder}, {"push;store", 3, impl.TrapUnder}, {"drop;drop", 1, impl.TrapUnder}, {"end;drop", 1, 0},
		{"push 4;load", 3, impl.TrapCell}, {"push 0;load 4", 3, impl.TrapCell}, {"push 4;push 1;store;end", 4, impl.TrapCell}, {"push 3;load", 3, 0}, {"push 3;push 1;store", 4, 0},
		{"push 1;push 0;div", 5, impl.TrapZero}, {"push 1;push 0;div;end", 5, impl.TrapZero}, {"push 0;push 1;div", 5, 0}, {"push 1;time;div", 5, impl.TrapZero},
		{withPushes(8, ""), 8, 0}, {withPushes(9, ""), 9, impl.TrapOver}, {withPushes(10, ""), 9, impl.TrapOver}, {withPushes(8, "dup"), 9, impl.TrapOver}, {withPushes(8, "time;end"), 9, impl.TrapOver}, {withPushes(8, "end"), 9, 0},
		{withPushes(2, strings.Repeat("dup;drop;", 28)+"add;add"), 2 + 56 + 2, impl.TrapUnder}, {strings.Repeat("push;drop;", 29) + "push;mul", 58 + 1 + 3, impl.TrapUnder},
		// Time is 0.
		{"time;zero 3;mul;end", 3, 0}, {"push 1;time;less;zero 5;mul;end", 5, 0},
	} {
		code := codeOf(t, c.text)
		for _, most := range []int{5000, 5001, math.MaxInt} {
			wantRun(t, code, someCells(64), impl.Region{From: 9, Size: 4}, most, c.cost, c.trap)
		}
	}
}

func TestRunCostOfNumbersThatAreNoOp(t *testing.T) {
	for op := 18; op < 256; op++ {
		for _, pushes := range []int{0, 1, 8} {
			code := append(codeOf(t, withPushes(pushes, "")), impl.Instr{Op: op, Arg: 255 - op})
			wantRun(t, code, someCells(64), impl.Region{Size: 64}, 5000, pushes+1, impl.TrapOp)
			wantRun(t, code, someCells(64), impl.Region{Size: 64}, pushes, pushes, 0)
		}
	}
}

// Just below a run's cost it stops ahead of its last instruction, whose trap is not told then.
func TestRunCostAboutMost(t *testing.T) {
	for _, c := range []struct {
		text             string
		most, cost, trap int
	}{
		{"", 0, 0, 0}, {"", -1, 0, 0}, {"end", 0, 0, 0}, {"end", 1, 1, 0}, {"end", 2, 1, 0}, {"add", 0, 0, 0}, {"add", 1, 1, impl.TrapUnder}, {"add", -1, 0, 0},
		{"mul", 0, 0, 0}, {"mul", 1, 0, 0}, {"mul", 2, 0, 0}, {"mul", 3, 3, impl.TrapUnder}, {"mul", 4, 3, impl.TrapUnder},
		{"take", 3, 0, 0}, {"take", 4, 4, 0}, {"take", 5, 4, 0}, {"in", 1, 0, 0}, {"in", 2, 2, 0},
		{"push;push 1;mul;end", 1, 1, 0}, {"push;push 1;mul;end", 2, 2, 0}, {"push;push 1;mul;end", 3, 2, 0}, {"push;push 1;mul;end", 4, 2, 0}, {"push;push 1;mul;end", 5, 5, 0}, {"push;push 1;mul;end", 6, 6, 0}, {"push;push 1;mul;end", 7, 6, 0},
		{"push 1;push 0;div", 4, 2, 0}, {"push 1;push 0;div", 5, 5, impl.TrapZero}, {"push 1;push 0;div", 6, 5, impl.TrapZero},
		// One that is too dear is not passed over for a cheaper one behind it.
		{"push;take;push", 4, 1, 0}, {"push;take;push", 5, 5, 0}, {"jump 2;end;take;end", 3, 1, 0},
		{withPushes(8, "in"), 9, 8, 0}, {withPushes(8, "in"), 10, 10, impl.TrapOver}, {withPushes(7, "take"), 10, 7, 0}, {withPushes(7, "take"), 11, 11, impl.TrapOver},
	} {
		wantRun(t, codeOf(t, c.text), someCells(64), impl.Region{Size: 64}, c.most, c.cost, c.trap)
	}
	for _, most := range []int{0, -1, -2, -5000, -5001, math.MinInt, math.MinInt + 1} {
		for _, code := range append(someCodes(), wrongCodes()...) {
			wantRun(t, code, someCells(64), impl.Region{Size: 64}, most, 0, 0)
		}
	}
}

func TestRunCostOfCodeThatGoesRound(t *testing.T) {
	for _, c := range []struct {
		text       string
		most, cost int
	}{
		{"jump 0", 1, 1}, {"jump 0", 7, 7}, {"jump 0", 4999, 4999}, {"jump 0", 5000, 5000}, {"jump 0", 5001, 5000}, {"jump 0", math.MaxInt, 5000}, {"push;zero 0", 9, 9}, {"push;zero 0", math.MaxInt, 5000}, {"push;jump 3;end;zero 0", 5002, 5000},
		{"in;drop;jump 0", 5000, 5000}, {"in;drop;jump 0", 4999, 4999}, {"in;drop;jump 0", 4997, 4996}, {"in;drop;jump 0", 5001, 5000},
		{"push 1;push 1;mul;drop;jump 0", 10, 9}, {"push 1;push 1;mul;drop;jump 0", 11, 9}, {"push 1;push 1;mul;drop;jump 0", 12, 12}, {"push 1;push 1;mul;drop;jump 0", 5000, 5000}, {"push 1;push 1;mul;drop;jump 0", math.MaxInt, 5000},
		{"take;drop;drop;jump 0", 4998, 4998}, {"take;drop;drop;jump 0", 5000, 4998}, {"take;drop;drop;jump 0", 5002, 4998}, {"take;drop;drop;jump 0", math.MaxInt, 4998},
		{"push 0;send;drop;jump 0", 4999, 4999}, {"push 0;send;drop;jump 0", 5000, 4999}, {"push 0;send;drop;jump 0", 5003, 4999}, {"push 3;out;jump 0", 5000, 5000},
	} {
		wantRun(t, codeOf(t, c.text), someCells(64), impl.Region{}, c.most, c.cost, 0)
	}
	// It goes round till a trap.
	for _, text := range []string{"push;jump 0", "time;jump 0", "in;jump 0"} {
		code := codeOf(t, text)
		each := costIn(code[0].Op)
		wantRun(t, code, nil, impl.Region{}, math.MaxInt, 8*(each+1)+each, impl.TrapOver)
		wantRun(t, code, nil, impl.Region{}, 8*(each+1), 8*(each+1), 0)
	}
	// It goes round 200 times, as a cell tells it, and then ends.
	counting := codeOf(t, "push;push;load;push 1;add;store;push;load;push 200;less;zero 13;jump 0;end;end")
	wantRun(t, counting, make([]int, 64), impl.Region{From: 5, Size: 1}, math.MaxInt, 200*15, 0)
}

func TestRunCostOfEachTrapByItsNumber(t *testing.T) {
	codes := map[int][]impl.Instr{
		1: {{Op: 18}}, 2: codeOf(t, "push 4;load"), 3: codeOf(t, "push;push;div"), 4: codeOf(t, withPushes(9, "")), 5: codeOf(t, "drop"), 6: {{Op: impl.OpPush, Arg: 256}},
	}
	costs := map[int]int{1: 1, 2: 3, 3: 5, 4: 9, 5: 1, 6: 1}
	for trap, code := range codes {
		wantRun(t, code, make([]int, 64), impl.Region{Size: 4}, 5000, costs[trap], trap)
		wantRun(t, code, make([]int, 64), impl.Region{Size: 4}, costs[trap], costs[trap], trap)
		wantRun(t, code, make([]int, 64), impl.Region{Size: 4}, costs[trap]-1, costs[trap]-costIn(code[len(code)-1].Op), 0)
	}
}

// The first instruction of code that is not right is the one that traps, and counts.
func TestRunCostOfCodeThatIsNotRight(t *testing.T) {
	for _, code := range wrongCodes() {
		cost := costIn(code[0].Op)
		for _, most := range []int{4, 5, 5000, math.MaxInt} {
			wantRun(t, code, someCells(64), impl.Region{Size: 64}, most, cost, impl.TrapCode)
		}
		wantRun(t, code, someCells(64), impl.Region{Size: 64}, cost, cost, impl.TrapCode)
		wantRun(t, code, someCells(64), impl.Region{Size: 64}, cost-1, 0, 0)
	}
	for op := range 18 {
		for _, n := range noBytes {
			wantRun(t, []impl.Instr{{Op: op, Arg: n}}, nil, impl.Region{}, 5000, costIn(op), impl.TrapCode)
			wantRun(t, []impl.Instr{{Op: op}, {Op: n}}, nil, impl.Region{}, 5000, costIn(op), impl.TrapCode)
		}
		wantRun(t, slices.Repeat(alone(op, 0), 61), nil, impl.Region{}, 5000, costIn(op), impl.TrapCode)
	}
}

// How many answers there are, is told by how many numbers can be dropped.
func TestRunCostGivesAnswers(t *testing.T) {
	for _, c := range []struct {
		text       string
		cost, trap int
	}{
		{"in;drop", 3, 0}, {"in;drop;drop", 4, impl.TrapUnder}, {"take;drop;drop", 6, 0}, {"take;drop;drop;drop", 7, impl.TrapUnder}, {"push 7;send;drop", 6, 0}, {"push 7;send;drop;drop", 7, impl.TrapUnder}, {"push 7;out", 3, 0}, {"push 7;out;drop", 4, impl.TrapUnder}, {"push 7;push 8;out;drop", 5, 0},
		// All of them are 0, whatever is sent, and whichever the port.
		{"in 5;zero 3;mul;end", 4, 0}, {"in 255;zero 3;mul;end", 4, 0}, {"take 5;zero 3;mul;zero 5;mul;end", 7, 0}, {"push 7;send 3;zero 4;mul;end", 7, 0}, {"push 0;send;zero 4;mul;end", 7, 0}, {"push 7;push 7;send;zero 5;mul;zero 8;push 7;end", 10, 0},
		// A stack with room for none, for one, for two.
		{withPushes(8, "in"), 10, impl.TrapOver}, {withPushes(7, "in"), 9, 0}, {withPushes(7, "in;in"), 11, impl.TrapOver}, {withPushes(6, "in;in"), 10, 0},
		{withPushes(8, "take"), 12, impl.TrapOver}, {withPushes(7, "take"), 11, impl.TrapOver}, {withPushes(6, "take"), 10, 0}, {withPushes(6, "take;push"), 11, impl.TrapOver}, {withPushes(5, "take;push"), 10, 0},
		{withPushes(8, "send"), 12, 0}, {withPushes(8, "send;push"), 13, impl.TrapOver}, {withPushes(7, "send;push"), 12, 0}, {withPushes(8, "out"), 10, 0}, {withPushes(8, "out;push"), 11, 0}, {withPushes(8, "out;push;push"), 12, impl.TrapOver},
		{withPushes(8, "in;end"), 10, impl.TrapOver}, {withPushes(7, "take;end"), 11, impl.TrapOver},
	} {
		wantRun(t, codeOf(t, c.text), someCells(64), impl.Region{Size: 64}, 5000, c.cost, c.trap)
	}
}

func TestRunCostOfCells(t *testing.T) {
	// The run is 5 dearer where the cell is not 0.
	ask := "push 0;load 1;zero 5;take;drop"
	store := "push 1;push 6;store;push 0;load 1;zero 8;take;drop"
	storeZero := "push 1;push 0;store;push 0;load 1;zero 8;take;drop"
	noughts, others := make([]int, 64), someCells(64)
	for _, r := range unlikeRegions() {
		if r.Size < 2 {
			continue
		}
		wantRun(t, codeOf(t, ask), noughts, r, 5000, 4, 0)
		wantRun(t, codeOf(t, ask), others, r, 5000, 9, 0)
		wantRun(t, codeOf(t, store), noughts, r, 5000, 13, 0)
		wantRun(t, codeOf(t, store), others, r, 5000, 13, 0)
		wantRun(t, codeOf(t, storeZero), noughts, r, 5000, 8, 0)
		wantRun(t, codeOf(t, storeZero), others, r, 5000, 8, 0)
	}
	// The region's own cells are asked, not those about it.
	for place := range 64 {
		cells := make([]int, 64)
		cells[place] = 1
		cost := 4
		if place == 21 {
			cost = 9
		}
		wantRun(t, codeOf(t, ask), cells, impl.Region{From: 20, Size: 9}, 5000, cost, 0)
	}
	for _, r := range []impl.Region{{}, {From: 5}, {From: 5, Size: -1}, {From: -1, Size: 9}, {From: 63, Size: 1}, {From: 63, Size: 9}, {From: 64, Size: 9}, {From: math.MaxInt, Size: math.MaxInt}, {From: math.MinInt, Size: math.MaxInt}} {
		wantRun(t, codeOf(t, ask), others, r, 5000, 3, impl.TrapCell)
		wantRun(t, codeOf(t, store), others, r, 5000, 4, impl.TrapCell)
		wantRun(t, codeOf(t, "push 3;push 4;mul"), others, r, 5000, 5, 0)
	}
	wantRun(t, codeOf(t, ask), nil, impl.Region{Size: 64}, 5000, 3, impl.TrapCell)
	for _, size := range []int{0, 1, 2, 64, 131} {
		for _, r := range someRegions() {
			for _, text := range []string{ask, store, storeZero} {
				wantAllAsTold(t, codeOf(t, text), someCells(size), r, math.MaxInt)
			}
		}
	}
}

// smallInstrs are enough to make every sort of way.
func smallInstrs() []impl.Instr {
	out := []impl.Instr{{Op: impl.OpEnd}, {Op: impl.OpPush}, {Op: impl.OpPush, Arg: 1}, {Op: impl.OpMul}, {Op: impl.OpDup}, {Op: impl.OpTake}, {Op: impl.OpSend}, {Op: impl.OpIn}, {Op: impl.OpLoad}, {Op: 18}}
	for arg := range 5 {
		out = append(out, impl.Instr{Op: impl.OpJump, Arg: arg}, impl.Instr{Op: impl.OpZero, Arg: arg})
	}
	return out
}

func TestCostsOfAllSmallCode(t *testing.T) {
	few := smallInstrs()
	cells := []int{0, 3}
	for _, one := range few {
		for _, two := range few {
			wantAllAsTold(t, []impl.Instr{one, two}, cells, impl.Region{Size: 2}, 11)
			for _, three := range few {
				wantAllAsTold(t, []impl.Instr{one, two, three}, cells, impl.Region{Size: 2}, 20)
			}
		}
	}
	for op := range 20 {
		for arg := range 4 {
			for next := range 20 {
				for nextArg := range 4 {
					wantAllAsTold(t, []impl.Instr{{Op: impl.OpIn}, {Op: op, Arg: arg}, {Op: next, Arg: nextArg}}, cells, impl.Region{Size: 2}, 50)
				}
			}
		}
	}
}

// drawnForward draws code without loops.
func drawnForward(d *drawer, size int) []impl.Instr {
	var code []impl.Instr
	for at := range size {
		one := d.instr()
		if one.Op == impl.OpJump || one.Op == impl.OpZero {
			one.Arg = min(255, at+1+d.below(6))
		}
		if d.below(4) == 0 {
			one = impl.Instr{Op: impl.OpZero, Arg: min(255, at+1+d.below(12))}
		}
		// OpEnd and numbers that are no Op would end most runs early.
		if (one.Op == impl.OpEnd || one.Op > 17) && d.below(4) != 0 {
			one = impl.Instr{Op: impl.OpIn}
		}
		code = append(code, one)
	}
	return code
}

func TestNoRunWithoutLoopsIsDearerThanItsWorst(t *testing.T) {
	d := drawer(21)
	reached, cheaper := 0, 0
	for range 6000 {
		code := drawnForward(&d, d.below(61))
		wantForward(t, code, true)
		worst, ok := impl.WorstCost(code)
		if !ok {
			t.Fatalf("WorstCost refuses %v", code)
		}
		for _, cells := range [][]int{make([]int, 64), someCells(64), someCells(7), {-1, math.MaxInt, math.MinInt}} {
			r := impl.Region{From: d.below(5) - 1, Size: d.below(65)}
			wantAllAsTold(t, code, cells, r, math.MaxInt)
			cost, _ := impl.RunCost(code, impl.Arena{Cells: cells}, r, math.MaxInt)
			if cost == worst {
				reached++
			} else {
				cheaper++
			}
			wantAllAsTold(t, code, cells, r, d.below(worst+2))
		}
	}
	if reached < 100 || cheaper < 100 {
		t.Errorf("%d runs were as dear as can be, %d were cheaper", reached, cheaper)
	}
}

// Whatever is handed in, right or wrong, with loops or without.
func TestCostsOfDrawnArguments(t *testing.T) {
	d := drawer(2026)
	odd := append([]int{0, 1, 2, 3, 59, 60, 61, 255, 256, 4999, 5000, 5001}, timeEdges...)
	one := func() int { return odd[d.below(len(odd))] }
	traps := map[int]int{}
	for range 20000 {
		var code []impl.Instr
		for range d.below(8) {
			code = append(code, d.instr())
		}
		if d.below(20) == 0 {
			code = append(code, impl.Instr{Op: one(), Arg: one()})
		}
		r := impl.Region{From: d.below(4), Size: d.below(9)}
		if d.below(20) == 0 {
			r = impl.Region{From: one(), Size: one()}
		}
		cells := make([]int, d.below(12))
		for i := range cells {
			cells[i] = one()
		}
		most := d.below(60)
		if d.below(30) == 0 {
			most = one()
		}
		wantAllAsTold(t, code, cells, r, most)
		_, trap := impl.RunCost(code, impl.Arena{Cells: cells}, r, most)
		traps[trap]++
	}
	for trap := range 7 {
		if traps[trap] == 0 {
			t.Errorf("no drawn run was over with the trap %d", trap)
		}
	}
}

// costsOfAll asks all three functions.
func costsOfAll(code []impl.Instr, cells []int, r impl.Region) [5]int {
	forward := 0
	if impl.Forward(code) {
		forward = 1
	}
	worst, ok := impl.WorstCost(code)
	if !ok {
		worst = -1
	}
	cost, trap := impl.RunCost(code, impl.Arena{Cells: cells}, r, math.MaxInt)
	less, _ := impl.RunCost(code, impl.Arena{Cells: cells}, r, 10)
	return [5]int{forward, worst, cost, trap, less}
}

func codesThatWrite(t *testing.T) [][]impl.Instr {
	out := [][]impl.Instr{nil, {{Op: impl.OpPush, Arg: 256}}, make([]impl.Instr, 61), {{Op: impl.OpPush}, {Op: 18}}}
	for _, text := range []string{
		"push;push 6;store;push;push 7;store 63;end", "push;push 6;store;push 0;push 7;store 2;jump 0", "push;push 6;store;drop", "push;push 6;store;push 70;push 1;store", "take;drop;drop;push 7;send;out;in", "jump 255", "jump 0", "zero 1",
		"push;load;push 1;add;dup;push;push 1;store 5;drop",
	} {
		out = append(out, codeOf(t, text))
	}
	return out
}

func TestCostsLeaveWhatIsGiven(t *testing.T) {
	for _, code := range append(codesThatWrite(t), someCodes()...) {
		for _, r := range []impl.Region{{Size: 64}, {From: 3, Size: 5}, {}} {
			for _, spare := range []int{0, 1, 70} {
				want := costsOfAll(slices.Clone(code), someCells(64), r)
				ownCode, codeMemory := fencedCode(code, spare)
				cells, cellMemory := fencedNumbers(someCells(64), spare)
				codeBefore, cellsBefore := slices.Clone(codeMemory), slices.Clone(cellMemory)
				got := costsOfAll(ownCode, cells, r)
				if got != want {
					t.Fatalf("costs of %v with %d to spare = %v, want %v", code, spare, got, want)
				}
				if !slices.Equal(codeMemory, codeBefore) || !slices.Equal(cellMemory, cellsBefore) {
					t.Fatalf("the costs of %v write into what is given, or about it", code)
				}
			}
		}
	}
}

// What was asked ahead, right or wrong, leaves nothing behind.
func TestCostsAreAnsweredAlike(t *testing.T) {
	codes := append(codesThatWrite(t), someCodes()...)
	cells := make([]int, 64)
	var first [][5]int
	for _, code := range codes {
		first = append(first, costsOfAll(code, cells, impl.Region{Size: 64}))
	}
	for range 5 {
		for i := len(codes) - 1; i >= 0; i-- {
			if got := costsOfAll(codes[i], cells, impl.Region{Size: 64}); got != first[i] {
				t.Fatalf("costs of %v = %v, ahead %v", codes[i], got, first[i])
			}
		}
	}
}
