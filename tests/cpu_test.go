package tests

import (
	"fmt"
	"math"
	"math/big"
	"slices"
	"testing"

	"loop.example/g00200/impl"
)

// stepped is what one step answers.
type stepped struct {
	cpu    impl.Cpu
	arena  impl.Arena
	effect impl.Effect
}

// stepping is what one step is asked for.
type stepping struct {
	pc     int
	stack  []int
	code   []impl.Instr
	cells  []int
	region impl.Region
	time   int
}

func (s stepping) String() string {
	return fmt.Sprintf("Pc %d, stack %.90v, %d instructions (%.60v), %d cells, region %v, time %d", s.pc, s.stack, len(s.code), s.code, len(s.cells), s.region, s.time)
}

func (s stepping) answer() stepped {
	cpu, arena, effect := impl.StepCpu(impl.Cpu{Pc: s.pc, Stack: s.stack}, s.code, impl.Arena{Cells: s.cells}, s.region, s.time)
	return stepped{cpu, arena, effect}
}

// asItIs is the answer of a trap.
func (s stepping) asItIs(trap int) stepped {
	return stepped{impl.Cpu{Pc: s.pc, Stack: s.stack}, impl.Arena{Cells: s.cells}, impl.Effect{Trap: trap}}
}

func (s stepping) isRight() bool {
	for _, one := range s.code {
		if one.Op < 0 || one.Op > 255 || one.Arg < 0 || one.Arg > 255 {
			return false
		}
	}
	return len(s.code) <= 60 && isRightCpu(s.pc, s.stack)
}

func isRightCpu(pc int, stack []int) bool {
	return pc >= 0 && pc <= 60 && len(stack) <= 8 && !slices.ContainsFunc(stack, func(n int) bool { return n < 0 || n > 65535 })
}

// takesAndPuts tells of each Op how many numbers it takes and how many it puts.
func takesAndPuts(op int) (int, int) {
	rows := [18][2]int{
		impl.OpEnd: {0, 0}, impl.OpPush: {0, 1}, impl.OpLoad: {1, 1}, impl.OpStore: {2, 0},
		impl.OpAdd: {2, 1}, impl.OpSub: {2, 1}, impl.OpMul: {2, 1}, impl.OpDiv: {2, 1}, impl.OpLess: {2, 1},
		impl.OpJump: {0, 0}, impl.OpZero: {1, 0}, impl.OpDup: {1, 2}, impl.OpDrop: {1, 0},
		impl.OpSend: {1, 0}, impl.OpTake: {0, 0}, impl.OpIn: {0, 0}, impl.OpOut: {1, 0}, impl.OpTime: {0, 1},
	}
	return rows[op][0], rows[op][1]
}

// tellTrap asks for one trap after another, in the document's order, whatever the step would have done till then.
func tellTrap(s stepping) int {
	if !s.isRight() || s.pc >= len(s.code) {
		return impl.TrapCode
	}
	one := s.code[s.pc]
	if one.Op > 17 {
		return impl.TrapOp
	}
	takes, puts := takesAndPuts(one.Op)
	left := len(s.stack) - takes
	if left < 0 {
		return impl.TrapUnder
	}
	if one.Op == impl.OpLoad || one.Op == impl.OpStore {
		if _, there := placeOf(len(s.cells), s.region, s.stack[left]+one.Arg); !there {
			return impl.TrapCell
		}
	}
	if one.Op == impl.OpDiv && s.stack[left+1] == 0 {
		return impl.TrapZero
	}
	if left+puts > 8 {
		return impl.TrapOver
	}
	return 0
}

func wordFrom(n *big.Int) int {
	return int(new(big.Int).Mod(n, big.NewInt(65536)).Int64())
}

// tellNumbers tells what an instruction that doesn't trap puts in place of what it takes.
func tellNumbers(s stepping, one impl.Instr, taken []int) []int {
	out := new(big.Int)
	a, b := new(big.Int), new(big.Int)
	if len(taken) == 2 {
		a.SetInt64(int64(taken[0]))
		b.SetInt64(int64(taken[1]))
	}
	switch one.Op {
	case impl.OpPush:
		return []int{one.Arg}
	case impl.OpLoad:
		place, _ := placeOf(len(s.cells), s.region, taken[0]+one.Arg)
		return []int{wordFrom(out.SetInt64(int64(s.cells[place])))}
	case impl.OpAdd:
		return []int{wordFrom(out.Add(a, b))}
	case impl.OpSub:
		return []int{wordFrom(out.Sub(a, b))}
	case impl.OpMul:
		return []int{wordFrom(out.Mul(a, b))}
	case impl.OpDiv:
		return []int{wordFrom(out.Quo(a, b))}
	case impl.OpLess:
		return []int{max(0, b.Cmp(a))}
	case impl.OpDup:
		return []int{taken[0], taken[0]}
	case impl.OpTime:
		return []int{wordFrom(out.SetInt64(int64(s.time)))}
	}
	return nil
}

func tellStep(s stepping) stepped {
	if trap := tellTrap(s); trap != 0 {
		return s.asItIs(trap)
	}
	one := s.code[s.pc]
	takes, _ := takesAndPuts(one.Op)
	left := len(s.stack) - takes
	taken := s.stack[left:]
	want := stepped{impl.Cpu{Pc: s.pc + 1, Stack: slices.Concat(s.stack[:left], tellNumbers(s, one, taken))}, impl.Arena{Cells: slices.Clone(s.cells)}, impl.Effect{}}
	switch {
	case one.Op == impl.OpJump, one.Op == impl.OpZero && taken[0] == 0:
		want.cpu.Pc = min(one.Arg, 60)
	case one.Op == impl.OpStore:
		place, _ := placeOf(len(s.cells), s.region, taken[0]+one.Arg)
		want.arena.Cells[place] = taken[1]
	case one.Op == impl.OpSend, one.Op == impl.OpOut:
		want.effect = impl.Effect{Kind: one.Op, Port: one.Arg, Num: taken[0]}
	case one.Op == impl.OpTake, one.Op == impl.OpIn:
		want.effect = impl.Effect{Kind: one.Op, Port: one.Arg}
	}
	return want
}

func sameStepped(got stepped, want stepped) bool {
	return got.cpu.Pc == want.cpu.Pc && slices.Equal(got.cpu.Stack, want.cpu.Stack) && slices.Equal(got.arena.Cells, want.arena.Cells) && got.effect == want.effect
}

func wantStepped(t *testing.T, s stepping, want stepped) {
	t.Helper()
	got := s.answer()
	if !sameStepped(got, want) {
		t.Fatalf("StepCpu of %v = %v, want %v", s, got, want)
	}
	if isRightCpu(s.pc, s.stack) && !impl.CpuOk(got.cpu) {
		t.Fatalf("StepCpu of %v leaves %v, which is not right", s, got.cpu)
	}
}

func wantStep(t *testing.T, s stepping) {
	t.Helper()
	wantStepped(t, s, tellStep(s))
}

// someCells answers so many cells, no two alike, and none of them 0.
func someCells(size int) []int {
	a, _ := fenced(size, 0)
	return a.Cells
}

// someStack answers so many words, no two alike, and none of them 0.
func someStack(size int) []int {
	var out []int
	for i := range size {
		out = append(out, 5+3*i)
	}
	return out
}

func alone(op int, arg int) []impl.Instr {
	return []impl.Instr{{Op: op, Arg: arg}}
}

var wordEdges = []int{0, 1, 2, 3, 7, 10, 255, 256, 257, 32767, 32768, 32769, 65533, 65534, 65535}

var timeEdges = []int{0, 1, 65535, 65536, 65537, 131071, 131072, -1, -2, -65535, -65536, -65537, math.MaxInt, math.MaxInt - 1, math.MaxInt - 65535, math.MinInt, math.MinInt + 1, math.MinInt + 65535}

func TestConstantsOfTheMachine(t *testing.T) {
	if impl.MaxStack != 8 {
		t.Errorf("MaxStack = %d", impl.MaxStack)
	}
	for i, n := range []int{impl.TrapOp, impl.TrapCell, impl.TrapZero, impl.TrapOver, impl.TrapUnder, impl.TrapCode, impl.TrapPort} {
		if n != i+1 {
			t.Errorf("the trap of the place %d is %d", i, n)
		}
	}
}

func TestCpuOk(t *testing.T) {
	const most, least = math.MaxInt, math.MinInt
	for _, pc := range []int{-1, 0, 1, 59, 60, 61, most, least} {
		for size := range 12 {
			want := pc >= 0 && pc <= 60 && size <= 8
			if got := impl.CpuOk(impl.Cpu{Pc: pc, Stack: make([]int, size)}); got != want {
				t.Errorf("CpuOk of Pc %d and %d numbers = %v", pc, size, got)
			}
		}
		if got, want := impl.CpuOk(impl.Cpu{Pc: pc}), pc >= 0 && pc <= 60; got != want {
			t.Errorf("CpuOk of Pc %d and no stack = %v", pc, got)
		}
	}
	for _, n := range []int{-1, 0, 1, 65535, 65536, 65537, -65535, -65536, 1 << 32, most, most - 1, least, least + 1} {
		for size := 1; size <= 9; size++ {
			for at := range size {
				stack := someStack(size)
				stack[at] = n
				want := size <= 8 && n >= 0 && n <= 65535
				if got := impl.CpuOk(impl.Cpu{Stack: stack}); got != want {
					t.Errorf("CpuOk of %v = %v", stack, got)
				}
			}
		}
	}
	if impl.CpuOk(impl.Cpu{Stack: make([]int, 100000)}) {
		t.Error("CpuOk of 100000 numbers")
	}
}

// Written out by hand: what each Op takes and puts, in which order, and what it leaves beside it.
func TestStepOfEachOp(t *testing.T) {
	cells := []int{11, 12, 13, 14, 15, 16}
	region := impl.Region{From: 2, Size: 3}
	for _, c := range []struct {
		op, arg      int
		stack, after []int
		effect       impl.Effect
	}{
		{impl.OpEnd, 0, nil, nil, impl.Effect{}}, {impl.OpEnd, 9, []int{4, 5}, []int{4, 5}, impl.Effect{}},
		{impl.OpPush, 0, nil, []int{0}, impl.Effect{}}, {impl.OpPush, 255, []int{4}, []int{4, 255}, impl.Effect{}},
		{impl.OpLoad, 0, []int{0}, []int{13}, impl.Effect{}}, {impl.OpLoad, 2, []int{4, 0}, []int{4, 15}, impl.Effect{}}, {impl.OpLoad, 1, []int{4, 1}, []int{4, 15}, impl.Effect{}}, {impl.OpLoad, 0, []int{2}, []int{15}, impl.Effect{}},
		{impl.OpAdd, 9, []int{7, 2}, []int{9}, impl.Effect{}}, {impl.OpAdd, 0, []int{4, 65535, 2}, []int{4, 1}, impl.Effect{}}, {impl.OpAdd, 0, []int{65535, 1}, []int{0}, impl.Effect{}},
		{impl.OpSub, 9, []int{7, 2}, []int{5}, impl.Effect{}}, {impl.OpSub, 0, []int{4, 2, 7}, []int{4, 65531}, impl.Effect{}}, {impl.OpSub, 0, []int{0, 1}, []int{65535}, impl.Effect{}}, {impl.OpSub, 0, []int{0, 65535}, []int{1}, impl.Effect{}},
		{impl.OpMul, 9, []int{7, 2}, []int{14}, impl.Effect{}}, {impl.OpMul, 0, []int{4, 256, 256}, []int{4, 0}, impl.Effect{}}, {impl.OpMul, 0, []int{65535, 65535}, []int{1}, impl.Effect{}}, {impl.OpMul, 0, []int{65535, 2}, []int{65534}, impl.Effect{}},
		{impl.OpDiv, 9, []int{7, 2}, []int{3}, impl.Effect{}}, {impl.OpDiv, 0, []int{4, 2, 7}, []int{4, 0}, impl.Effect{}}, {impl.OpDiv, 0, []int{0, 7}, []int{0}, impl.Effect{}}, {impl.OpDiv, 0, []int{65535, 1}, []int{65535}, impl.Effect{}}, {impl.OpDiv, 0, []int{65535, 65534}, []int{1}, impl.Effect{}},
		{impl.OpLess, 9, []int{7, 2}, []int{0}, impl.Effect{}}, {impl.OpLess, 0, []int{4, 2, 7}, []int{4, 1}, impl.Effect{}}, {impl.OpLess, 0, []int{7, 7}, []int{0}, impl.Effect{}}, {impl.OpLess, 0, []int{0, 65535}, []int{1}, impl.Effect{}},
		{impl.OpDup, 9, []int{7}, []int{7, 7}, impl.Effect{}}, {impl.OpDup, 0, []int{4, 0}, []int{4, 0, 0}, impl.Effect{}},
		{impl.OpDrop, 9, []int{7}, nil, impl.Effect{}}, {impl.OpDrop, 0, []int{4, 5, 7}, []int{4, 5}, impl.Effect{}},
		{impl.OpSend, 3, []int{7}, nil, impl.Effect{Kind: 13, Port: 3, Num: 7}}, {impl.OpSend, 255, []int{4, 65535}, []int{4}, impl.Effect{Kind: 13, Port: 255, Num: 65535}}, {impl.OpSend, 0, []int{4, 0}, []int{4}, impl.Effect{Kind: 13}},
		{impl.OpTake, 3, nil, nil, impl.Effect{Kind: 14, Port: 3}}, {impl.OpTake, 255, []int{4, 5}, []int{4, 5}, impl.Effect{Kind: 14, Port: 255}},
		{impl.OpIn, 3, nil, nil, impl.Effect{Kind: 15, Port: 3}}, {impl.OpIn, 0, []int{4, 5}, []int{4, 5}, impl.Effect{Kind: 15}},
		{impl.OpOut, 3, []int{7}, nil, impl.Effect{Kind: 16, Port: 3, Num: 7}}, {impl.OpOut, 255, []int{4, 65535}, []int{4}, impl.Effect{Kind: 16, Port: 255, Num: 65535}},
		{impl.OpTime, 9, nil, []int{1234}, impl.Effect{}}, {impl.OpTime, 0, []int{4}, []int{4, 1234}, impl.Effect{}},
	} {
		for _, pc := range []int{0, 1, 58, 59} {
			code := slices.Repeat(alone(200, 200), 60)
			code[pc] = impl.Instr{Op: c.op, Arg: c.arg}
			s := stepping{pc, c.stack, code[:min(60, pc+2)], cells, region, 3*65536 + 1234}
			wantStepped(t, s, stepped{impl.Cpu{Pc: pc + 1, Stack: c.after}, impl.Arena{Cells: cells}, c.effect})
		}
	}
}

func TestStoreTakesTheNumberFirst(t *testing.T) {
	cells := []int{11, 12, 13, 14, 15, 16}
	for _, c := range []struct {
		arg          int
		stack, after []int
		cells        []int
	}{
		{0, []int{0, 9}, nil, []int{11, 12, 9, 14, 15, 16}}, {1, []int{4, 1, 65535}, []int{4}, []int{11, 12, 13, 14, 65535, 16}},
		{2, []int{4, 5, 0, 0}, []int{4, 5}, []int{11, 12, 13, 14, 0, 16}}, {0, []int{1, 2}, nil, []int{11, 12, 13, 2, 15, 16}}, {0, []int{2, 1}, nil, []int{11, 12, 13, 14, 1, 16}},
	} {
		s := stepping{0, c.stack, alone(impl.OpStore, c.arg), cells, impl.Region{From: 2, Size: 3}, 0}
		wantStepped(t, s, stepped{impl.Cpu{Pc: 1, Stack: c.after}, impl.Arena{Cells: c.cells}, impl.Effect{}})
	}
}

// Each Op with just enough numbers, with one too few, with none and with a full stack; and each number that is no Op.
func TestStepOfEveryOpWithEveryStack(t *testing.T) {
	cells := someCells(64)
	for op := range 256 {
		for size := range 12 {
			for _, arg := range []int{0, 1, 7, 59, 60, 61, 254, 255} {
				for _, top := range []int{0, 1, 3, 40, 65535} {
					stack := someStack(size)
					if size > 0 {
						stack[size-1] = top
					}
					wantStep(t, stepping{0, stack, alone(op, arg), cells, impl.Region{From: 3, Size: 61}, 77})
				}
			}
		}
	}
}

func TestStepOfNumbersAtEdges(t *testing.T) {
	cells := someCells(64)
	for op := range 18 {
		for _, a := range wordEdges {
			for _, b := range wordEdges {
				for _, below := range []int{0, 1, 5, 6} {
					wantStep(t, stepping{2, append(someStack(below), a, b), slices.Repeat(alone(op, 3), 5), cells, impl.Region{From: 0, Size: 64}, a*b - 7})
				}
			}
		}
	}
	for _, time := range append(timeEdges, numbersToHold()...) {
		for size := range 10 {
			wantStep(t, stepping{0, someStack(size), alone(impl.OpTime, 5), cells, impl.Region{}, time})
		}
	}
}

func TestSumsAndTimesWrittenOut(t *testing.T) {
	for _, c := range []struct{ time, want int }{
		{0, 0}, {1, 1}, {65535, 65535}, {65536, 0}, {65537, 1}, {-1, 65535}, {-65535, 1}, {-65536, 0}, {-65537, 65535}, {math.MaxInt, 65535}, {math.MinInt, 0}, {math.MinInt + 1, 1},
	} {
		s := stepping{stack: []int{4}, code: alone(impl.OpTime, 9), time: c.time}
		wantStepped(t, s, stepped{cpu: impl.Cpu{Pc: 1, Stack: []int{4, c.want}}})
	}
}

func TestStepsOnCellsOfEverySort(t *testing.T) {
	for _, size := range []int{0, 1, 6, 63, 64, 65, 131} {
		cells := someCells(size)
		for _, r := range someRegions() {
			for _, arg := range []int{0, 1, 5, 63, 64, 255} {
				for _, offset := range []int{0, 1, 2, 5, 6, 62, 63, 64, 65535} {
					wantStep(t, stepping{0, []int{9, offset}, alone(impl.OpLoad, arg), cells, r, 0})
					wantStep(t, stepping{0, []int{9, offset, 4321}, alone(impl.OpStore, arg), cells, r, 0})
				}
			}
		}
	}
}

func TestCellsAtTheEdgesOfARegion(t *testing.T) {
	cells := someCells(64)
	for _, c := range []struct {
		from, size, offset, arg int
		place                   int
	}{
		{0, 1, 0, 0, 0}, {0, 1, 0, 1, -1}, {0, 1, 1, 0, -1}, {0, 64, 63, 0, 63}, {0, 64, 0, 63, 63}, {0, 64, 1, 63, -1}, {0, 64, 64, 0, -1}, {0, 64, 0, 255, -1},
		{4, 4, 0, 0, 4}, {4, 4, 3, 0, 7}, {4, 4, 0, 3, 7}, {4, 4, 1, 2, 7}, {4, 4, 2, 2, -1}, {4, 4, 4, 0, -1}, {4, 4, 0, 4, -1}, {4, 4, 65535, 0, -1}, {4, 4, 65535, 1, -1}, {4, 4, 65533, 3, -1}, {4, 4, 65535, 255, -1},
		{63, 1, 0, 0, 63}, {63, 2, 1, 0, -1}, {63, 2, 0, 1, -1}, {63, 2, 0, 0, 63}, {64, 1, 0, 0, -1}, {60, 9, 3, 0, 63}, {60, 9, 3, 1, -1},
		{4, 0, 0, 0, -1}, {4, -1, 0, 0, -1}, {-1, 4, 1, 0, -1}, {-1, 4, 0, 1, -1}, {math.MaxInt, math.MaxInt, 1, 0, -1}, {math.MinInt, math.MaxInt, 0, 0, -1}, {0, math.MaxInt, 63, 0, 63}, {0, math.MaxInt, 64, 0, -1},
	} {
		r := impl.Region{From: c.from, Size: c.size}
		load := stepping{0, []int{c.offset}, alone(impl.OpLoad, c.arg), cells, r, 0}
		store := stepping{0, []int{c.offset, 60000}, alone(impl.OpStore, c.arg), cells, r, 0}
		if c.place < 0 {
			wantStepped(t, load, load.asItIs(impl.TrapCell))
			wantStepped(t, store, store.asItIs(impl.TrapCell))
			continue
		}
		wantStepped(t, load, stepped{impl.Cpu{Pc: 1, Stack: []int{cells[c.place]}}, impl.Arena{Cells: cells}, impl.Effect{}})
		after := slices.Clone(cells)
		after[c.place] = 60000
		wantStepped(t, store, stepped{impl.Cpu{Pc: 1}, impl.Arena{Cells: after}, impl.Effect{}})
	}
}

func TestWhatIsStoredIsLoaded(t *testing.T) {
	for owner, r := range unlikeRegions() {
		for at := range r.Size {
			for _, n := range wordEdges {
				arg := min(at, owner)
				c, a, e := impl.StepCpu(impl.Cpu{Stack: []int{at - arg, n}}, alone(impl.OpStore, arg), impl.Arena{Cells: someCells(64)}, r, 0)
				want := someCells(64)
				want[r.From+at] = n
				wantCells(t, "OpStore", a.Cells, want)
				c, a, e2 := impl.StepCpu(impl.Cpu{Stack: append(c.Stack, arg)}, alone(impl.OpLoad, at-arg), a, r, 0)
				wantCells(t, "OpLoad", a.Cells, want)
				if e != (impl.Effect{}) || e2 != (impl.Effect{}) || !slices.Equal(c.Stack, []int{n}) {
					t.Fatalf("%d stored at %d of %v is loaded as %v (%v, %v)", n, at, r, c.Stack, e, e2)
				}
			}
		}
	}
}

// A cell that is no word is left as it stands, but on a stack it is a word: a machine stays right.
func TestCellsThatAreNoWords(t *testing.T) {
	cells := []int{-1, impl.Word, math.MaxInt, math.MinInt, -impl.Word - 3, 5}
	for at, want := range []int{65535, 0, 65535, 0, 65533, 5} {
		s := stepping{0, []int{8, at}, alone(impl.OpLoad, 0), cells, impl.Region{Size: 6}, 0}
		wantStepped(t, s, stepped{impl.Cpu{Pc: 1, Stack: []int{8, want}}, impl.Arena{Cells: cells}, impl.Effect{}})
		for op := range 18 {
			wantStep(t, stepping{0, []int{8, at, 3}, alone(op, 0), cells, impl.Region{Size: 6}, 0})
			wantStep(t, stepping{0, []int{8, 3, at}, alone(op, 1), cells, impl.Region{From: 1, Size: 5}, 0})
		}
	}
}

func TestJumps(t *testing.T) {
	cells := someCells(3)
	for _, size := range []int{1, 2, 30, 59, 60} {
		for _, pc := range []int{0, size / 2, size - 1} {
			for _, arg := range []int{0, pc, size - 1, size, size + 1, 59, 60, 61, 62, 128, 254, 255} {
				for _, c := range []struct {
					op           int
					stack, after []int
					goes         bool
				}{
					{impl.OpJump, nil, nil, true}, {impl.OpJump, []int{0, 1}, []int{0, 1}, true}, {impl.OpJump, someStack(8), someStack(8), true},
					{impl.OpZero, []int{0}, nil, true}, {impl.OpZero, []int{1}, nil, false}, {impl.OpZero, []int{65535}, nil, false}, {impl.OpZero, []int{1, 0}, []int{1}, true}, {impl.OpZero, []int{0, 1}, []int{0}, false},
				} {
					code := someCode(size)
					code[pc] = impl.Instr{Op: c.op, Arg: arg}
					place := pc + 1
					if c.goes {
						place = min(arg, 60)
					}
					wantStepped(t, stepping{pc, c.stack, code, cells, impl.Region{}, 0}, stepped{impl.Cpu{Pc: place, Stack: c.after}, impl.Arena{Cells: cells}, impl.Effect{}})
				}
			}
		}
	}
}

func TestNoInstructionAtPc(t *testing.T) {
	cells := someCells(64)
	for _, size := range []int{0, 1, 2, 30, 59, 60} {
		for pc := size; pc <= 62; pc++ {
			for op := range 20 {
				s := stepping{pc, someStack(3), slices.Repeat(alone(op, 1), size), cells, impl.Region{Size: 64}, 0}
				wantStepped(t, s, s.asItIs(impl.TrapCode))
			}
		}
	}
	// What stands in the room behind the code is no instruction.
	code := slices.Repeat(alone(impl.OpPush, 7), 9)
	s := stepping{4, nil, code[:4], cells, impl.Region{}, 0}
	wantStepped(t, s, s.asItIs(impl.TrapCode))
	s = stepping{0, nil, code[:0], cells, impl.Region{}, 0}
	wantStepped(t, s, s.asItIs(impl.TrapCode))
}

func wrongStacks() [][]int {
	out := [][]int{make([]int, 9), someStack(9), someStack(10), make([]int, 3000)}
	for _, n := range []int{-1, 65536, 65537, math.MaxInt, math.MinInt} {
		for size := 1; size <= 8; size++ {
			for _, at := range []int{0, size - 1} {
				stack := someStack(size)
				stack[at] = n
				out = append(out, stack)
			}
		}
	}
	return out
}

// TrapCode goes ahead of all others: of each Op, with any stack, on cells that are there and on none.
func TestMachinesAndCodeThatAreNotRight(t *testing.T) {
	cells := someCells(64)
	for op := range 20 {
		for _, r := range []impl.Region{{Size: 64}, {}} {
			for _, stack := range wrongStacks() {
				s := stepping{0, stack, alone(op, 1), cells, r, 0}
				wantStepped(t, s, s.asItIs(impl.TrapCode))
			}
			for size := range 9 {
				for _, pc := range []int{-1, -2, 61, 62, 255, math.MaxInt, math.MinInt} {
					s := stepping{pc, make([]int, size), slices.Repeat(alone(op, 1), 60), cells, r, 0}
					wantStepped(t, s, s.asItIs(impl.TrapCode))
				}
				for _, n := range noBytes {
					for _, code := range [][]impl.Instr{
						{{Op: n, Arg: 1}}, {{Op: op, Arg: n}}, {{Op: op, Arg: 1}, {Op: n}}, {{Op: op, Arg: 1}, {Arg: n}}, slices.Repeat(alone(op, 1), 61),
					} {
						s := stepping{0, make([]int, size), code, cells, r, 0}
						wantStepped(t, s, s.asItIs(impl.TrapCode))
					}
				}
			}
		}
	}
	for _, code := range wrongCodes() {
		for _, pc := range []int{0, 1, 30, 59, 60} {
			s := stepping{pc, []int{3, 2}, code, cells, impl.Region{Size: 64}, 0}
			wantStepped(t, s, s.asItIs(impl.TrapCode))
		}
	}
}

// Written out by hand: each trap alone, and the pairs that can be.
func TestTrapsInTheirOrder(t *testing.T) {
	full, over := make([]int, 8), make([]int, 9)
	rows := []struct {
		op, arg int
		stack   []int
		size    int
		want    int
	}{
		{impl.OpPush, 1, full, 4, impl.TrapOver}, {impl.OpDup, 1, full, 4, impl.TrapOver}, {impl.OpTime, 1, full, 4, impl.TrapOver},
		{impl.OpAdd, 0, nil, 4, impl.TrapUnder}, {impl.OpAdd, 0, []int{1}, 4, impl.TrapUnder}, {impl.OpSub, 0, []int{1}, 4, impl.TrapUnder}, {impl.OpMul, 0, []int{1}, 4, impl.TrapUnder}, {impl.OpLess, 0, []int{1}, 4, impl.TrapUnder},
		{impl.OpZero, 0, nil, 4, impl.TrapUnder}, {impl.OpDup, 0, nil, 4, impl.TrapUnder}, {impl.OpDrop, 0, nil, 4, impl.TrapUnder}, {impl.OpSend, 0, nil, 4, impl.TrapUnder}, {impl.OpOut, 0, nil, 4, impl.TrapUnder},
		{impl.OpLoad, 0, nil, 4, impl.TrapUnder}, {impl.OpStore, 0, nil, 4, impl.TrapUnder}, {impl.OpStore, 0, []int{1}, 4, impl.TrapUnder}, {impl.OpDiv, 0, nil, 4, impl.TrapUnder}, {impl.OpDiv, 0, []int{1}, 4, impl.TrapUnder},
		{impl.OpLoad, 0, []int{4}, 4, impl.TrapCell}, {impl.OpStore, 0, []int{4, 1}, 4, impl.TrapCell}, {impl.OpDiv, 0, []int{1, 0}, 4, impl.TrapZero}, {impl.OpDiv, 0, []int{0, 0}, 4, impl.TrapZero},
		// Too few numbers, and no such cell, or b is 0.
		{impl.OpLoad, 4, nil, 4, impl.TrapUnder}, {impl.OpLoad, 0, nil, 0, impl.TrapUnder}, {impl.OpStore, 4, []int{4}, 4, impl.TrapUnder}, {impl.OpStore, 0, []int{0}, 0, impl.TrapUnder}, {impl.OpDiv, 0, []int{0}, 4, impl.TrapUnder},
		// No such cell, or b is 0, and a full stack, from which nothing was taken yet.
		{impl.OpLoad, 0, full, 0, impl.TrapCell}, {impl.OpStore, 0, full, 0, impl.TrapCell}, {impl.OpDiv, 0, full, 4, impl.TrapZero},
		// No such Op, and no numbers or a full stack.
		{18, 0, nil, 0, impl.TrapOp}, {18, 0, full, 0, impl.TrapOp}, {19, 0, []int{0}, 0, impl.TrapOp}, {255, 255, nil, 0, impl.TrapOp}, {255, 255, full, 4, impl.TrapOp},
		// A machine that is not right, and each other one.
		{impl.OpPush, 0, over, 4, impl.TrapCode}, {18, 0, over, 4, impl.TrapCode}, {impl.OpAdd, 0, []int{-1}, 4, impl.TrapCode}, {impl.OpLoad, 0, over, 0, impl.TrapCode}, {impl.OpDiv, 0, over, 4, impl.TrapCode}, {255, 0, []int{65536}, 4, impl.TrapCode},
		// An Op that is no byte is no right code, and none that there is.
		{256, 0, nil, 4, impl.TrapCode}, {-1, 0, nil, 4, impl.TrapCode}, {math.MaxInt, 0, full, 4, impl.TrapCode}, {18, 256, full, 4, impl.TrapCode},
	}
	cells := someCells(64)
	for _, c := range rows {
		s := stepping{0, c.stack, alone(c.op, c.arg), cells, impl.Region{From: 5, Size: c.size}, -3}
		wantStepped(t, s, s.asItIs(c.want))
	}
}

// A full stack alone is no trap of those that put no more than they take.
func TestFullStacksThatAreNoTrap(t *testing.T) {
	cells := someCells(64)
	for _, op := range []int{impl.OpEnd, impl.OpLoad, impl.OpStore, impl.OpAdd, impl.OpSub, impl.OpMul, impl.OpDiv, impl.OpLess, impl.OpJump, impl.OpZero, impl.OpDrop, impl.OpSend, impl.OpTake, impl.OpIn, impl.OpOut} {
		s := stepping{0, someStack(8), alone(op, 2), cells, impl.Region{Size: 64}, 0}
		wantStep(t, s)
		if e := s.answer().effect; e.Trap != 0 {
			t.Errorf("%s with a full stack traps: %d", impl.NameOf(op), e.Trap)
		}
	}
	for _, op := range []int{impl.OpPush, impl.OpDup, impl.OpTime} {
		s := stepping{0, someStack(7), alone(op, 2), cells, impl.Region{Size: 64}, 0}
		wantStep(t, s)
		if got := s.answer(); got.effect.Trap != 0 || len(got.cpu.Stack) != 8 {
			t.Errorf("%s with room for one: %v", impl.NameOf(op), got)
		}
	}
}

func TestAnswer(t *testing.T) {
	for _, c := range []struct{ n, want int }{
		{0, 0}, {1, 1}, {65535, 65535}, {65536, 0}, {65537, 1}, {131071, 65535}, {-1, 65535}, {-65535, 1}, {-65536, 0}, {-65537, 65535}, {math.MaxInt, 65535}, {math.MinInt, 0}, {math.MinInt + 1, 1},
	} {
		for size := range 12 {
			for _, pc := range []int{0, 1, 59, 60} {
				stack := someStack(size)
				want := stack
				if size < 8 {
					want = append(slices.Clone(stack), c.want)
				}
				got, ok := impl.Answer(impl.Cpu{Pc: pc, Stack: stack}, c.n)
				if ok != (size < 8) || got.Pc != pc || !slices.Equal(got.Stack, want) {
					t.Errorf("Answer of Pc %d, %v and %d = %v, %v", pc, stack, c.n, got, ok)
				}
			}
		}
	}
	for _, n := range numbersToHold() {
		if got, ok := impl.Answer(impl.Cpu{}, n); !ok || len(got.Stack) != 1 || got.Stack[0] != wordFrom(big.NewInt(int64(n))) {
			t.Errorf("Answer of %d = %v, %v", n, got, ok)
		}
	}
}

func TestAnswerRefusesMachinesThatAreNotRight(t *testing.T) {
	refuse := func(c impl.Cpu) {
		t.Helper()
		if got, ok := impl.Answer(c, 70000); ok || got.Pc != c.Pc || !slices.Equal(got.Stack, c.Stack) {
			t.Errorf("Answer of %.90v = %.90v, %v", c, got, ok)
		}
	}
	for _, stack := range wrongStacks() {
		refuse(impl.Cpu{Pc: 3, Stack: stack})
	}
	for _, pc := range []int{-1, 61, math.MaxInt, math.MinInt} {
		for size := range 10 {
			refuse(impl.Cpu{Pc: pc, Stack: someStack(size)})
		}
	}
}

// drawer draws by a fixed rule.
type drawer uint32

func (d *drawer) below(n int) int {
	*d = *d*1664525 + 1013904223
	return int(*d>>8) % n
}

func (d *drawer) instr() impl.Instr {
	one := impl.Instr{Op: d.below(18), Arg: d.below(8)}
	// Steps that put a number are drawn more often, so that a stack is seldom empty.
	if d.below(3) == 0 {
		one = impl.Instr{Op: impl.OpPush, Arg: d.below(256)}
	}
	if d.below(40) == 0 {
		one = impl.Instr{Op: d.below(256), Arg: d.below(256)}
	}
	return one
}

// lifeOfSteps goes on behind traps, and gives an answer to what asks for one.
func lifeOfSteps(t *testing.T, d *drawer, seen map[impl.Effect]int) {
	t.Helper()
	var code []impl.Instr
	for range d.below(61) {
		code = append(code, d.instr())
	}
	s := stepping{0, nil, code, make([]int, 64), impl.Region{From: d.below(60), Size: 1 + d.below(8)}, 0}
	for time := range 80 {
		s.time = time * 1001
		wantStep(t, s)
		got := s.answer()
		seen[impl.Effect{Kind: got.effect.Kind, Trap: got.effect.Trap}]++
		s.pc, s.stack, s.cells = got.cpu.Pc, got.cpu.Stack, got.arena.Cells
		if got.effect.Trap != 0 {
			s.pc, s.stack = d.below(61), s.stack[:d.below(len(s.stack)+1)]
		}
		if got.effect.Kind != 0 {
			c, _ := impl.Answer(got.cpu, d.below(200000)-100000)
			s.stack = c.Stack
		}
		if !impl.CpuOk(impl.Cpu{Pc: s.pc, Stack: s.stack}) {
			t.Fatalf("a machine is not right any more: %v", s)
		}
	}
}

func TestMachinesStayRightInDrawnLives(t *testing.T) {
	d := drawer(7)
	seen := map[impl.Effect]int{}
	for range 3000 {
		lifeOfSteps(t, &d, seen)
	}
	for trap := impl.TrapOp; trap <= impl.TrapCode; trap++ {
		if seen[impl.Effect{Trap: trap}] == 0 {
			t.Errorf("no drawn life met the trap %d", trap)
		}
	}
	for kind := impl.OpSend; kind <= impl.OpOut; kind++ {
		if seen[impl.Effect{Kind: kind}] == 0 {
			t.Errorf("no drawn life met the effect %d", kind)
		}
	}
}

// Whatever is handed in, right or wrong, at once: all that is not right is told as TrapCode, and a machine that is right stays so.
func TestStepsOfDrawnArguments(t *testing.T) {
	d := drawer(99)
	odd := append([]int{0, 1, 2, 3, 4, 5, 59, 60, 61, 255, 256}, append(wordEdges, timeEdges...)...)
	one := func() int { return odd[d.below(len(odd))] }
	for range 200000 {
		s := stepping{pc: d.below(4), region: impl.Region{From: d.below(5) - 1, Size: d.below(7)}, time: one()}
		for range d.below(10) {
			s.stack = append(s.stack, d.below(6))
		}
		for range d.below(5) {
			s.code = append(s.code, impl.Instr{Op: d.below(20), Arg: d.below(4)})
		}
		for range d.below(9) {
			s.cells = append(s.cells, one())
		}
		switch d.below(8) {
		case 0:
			s.pc = one()
		case 1:
			s.stack = append(s.stack, one())
		case 2:
			s.code = append(s.code, impl.Instr{Op: one(), Arg: one()})
		case 3:
			s.region = impl.Region{From: one(), Size: one()}
		}
		wantStep(t, s)
	}
}

// fencedNumbers answers a list with room ahead of it and behind it, and the memory that it lies in.
func fencedNumbers(list []int, spare int) ([]int, []int) {
	memory := make([]int, 2+len(list)+spare)
	fill(memory, fence)
	copy(memory[2:], list)
	return memory[2 : 2+len(list)], memory
}

// stepsOfEverySort are steps that do something, and steps of each trap.
func stepsOfEverySort() []stepping {
	var out []stepping
	for op := range 20 {
		for size := range 11 {
			for _, r := range []impl.Region{{From: 1, Size: 20}, {}} {
				for _, arg := range []int{0, 1, 300} {
					out = append(out, stepping{1, someStack(size), []impl.Instr{{}, {Op: op, Arg: arg}}, someCells(64), r, -9})
				}
			}
		}
	}
	for _, pc := range []int{-1, 2, 61} {
		out = append(out, stepping{pc, someStack(3), []impl.Instr{{}, {Op: 1}}, someCells(64), impl.Region{}, 0})
	}
	return append(out, stepping{}, stepping{stack: []int{1, 0}, code: alone(impl.OpDiv, 0)}, stepping{stack: []int{0, 1}, code: alone(impl.OpStore, 0), cells: []int{3}, region: impl.Region{Size: 1}})
}

func TestStepsShareNoMemory(t *testing.T) {
	for _, s := range stepsOfEverySort() {
		want := tellStep(s)
		stack, stackMemory := fencedNumbers(s.stack, 12)
		cells, cellMemory := fencedNumbers(s.cells, 12)
		code, codeMemory := fencedCode(s.code, 12)
		stackBefore, cellsBefore, codeBefore := slices.Clone(stackMemory), slices.Clone(cellMemory), slices.Clone(codeMemory)
		s.stack, s.cells, s.code = stack, cells, code
		got, again := s.answer(), s.answer()
		wantApart(t, "StepCpu, the stack", stackMemory, stackBefore, got.cpu.Stack)
		wantApart(t, "StepCpu, the cells behind the stack", cellMemory, cellsBefore, got.cpu.Stack)
		wantCells(t, "StepCpu, the cells with the stack written into", got.arena.Cells, want.arena.Cells)
		wantApart(t, "StepCpu, the cells", cellMemory, cellsBefore, got.arena.Cells)
		wantApart(t, "StepCpu, the stack behind the cells", stackMemory, stackBefore, got.arena.Cells)
		wantCells(t, "StepCpu, the stack with the cells written into", again.cpu.Stack, want.cpu.Stack)
		fill(again.arena.Cells[:cap(again.arena.Cells)], 6)
		if !slices.Equal(codeMemory, codeBefore) || !slices.Equal(again.cpu.Stack, want.cpu.Stack) {
			t.Fatalf("StepCpu of %v: the code or the stack is written into", s)
		}
		wantStepped(t, s, want)
	}
}

func TestAnswersShareNoMemory(t *testing.T) {
	for size := range 11 {
		for _, pc := range []int{0, 60, 61} {
			stack, memory := fencedNumbers(someStack(size), 5)
			before := slices.Clone(memory)
			c := impl.Cpu{Pc: pc, Stack: stack}
			one, _ := impl.Answer(c, 4)
			two, _ := impl.Answer(c, 5)
			want := slices.Clone(two.Stack)
			impl.CpuOk(c)
			wantApart(t, "Answer", memory, before, one.Stack)
			wantCells(t, "Answer beside another", two.Stack, want)
		}
	}
}

// What was asked ahead, right or wrong, leaves nothing behind.
func TestStepsAreAnsweredAlike(t *testing.T) {
	steps := stepsOfEverySort()
	var first []stepped
	for _, s := range steps {
		first = append(first, s.answer())
	}
	for range 5 {
		for i := len(steps) - 1; i >= 0; i-- {
			wantStepped(t, steps[i], first[i])
		}
		for i, s := range steps {
			wantStepped(t, s, first[i])
		}
	}
}
