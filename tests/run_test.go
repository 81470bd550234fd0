package tests

import (
	"fmt"
	"math"
	"slices"
	"testing"

	"loop.example/g00200/impl"
)

// textOf writes instructions that stand between semicolons as a set-up has them.
func textOf(t *testing.T, text string) string {
	t.Helper()
	out, ok := impl.CodeText(codeOf(t, text))
	if !ok {
		t.Fatalf("%q has no text", text)
	}
	return out
}

// pairPorts are, of each kind, one from each of two parts to the other.
func pairPorts() []impl.Port {
	return []impl.Port{
		{Kind: 1, From: 1, To: 2, Most: 2}, {Kind: 1, From: 2, To: 1, Most: 3},
		{Kind: 2, From: 1, To: 2, Most: 1, Fresh: 1}, {Kind: 2, From: 2, To: 1, Most: 1, Fresh: 5},
	}
}

// pairKernel is a new kernel of two parts, the first of 4 cells and the second of 3.
func pairKernel(t *testing.T, first string, second string) impl.Kernel {
	t.Helper()
	return newKernel(t, impl.Setup{
		Regions: []impl.Region{{From: 0, Size: 4}, {From: 10, Size: 3}},
		Plan:    []impl.Window{{Part: 1, Budget: 50}, {Part: 2, Budget: 50}},
		Ports:   pairPorts(),
		Codes:   []string{textOf(t, first), textOf(t, second)},
	})
}

// running is what RunPart answers.
type running struct {
	kernel    impl.Kernel
	how, trap int
}

func runOf(k impl.Kernel, part int, budget int, ins []int) running {
	got, how, trap := impl.RunPart(k, part, budget, ins)
	return running{got, how, trap}
}

func wantRunPart(t *testing.T, k impl.Kernel, part int, budget int, ins []int, want running) {
	t.Helper()
	got := runOf(k, part, budget, ins)
	if got.how != want.how || got.trap != want.trap {
		t.Fatalf("RunPart of the part %d, budget %d and %.90v was over by %d, %d, want %d, %d, of %s", part, budget, ins, got.how, got.trap, want.how, want.trap, shownKernel(k))
	}
	wantKernel(t, fmt.Sprintf("RunPart of the part %d, budget %d and %.90v", part, budget, ins), got.kernel, want.kernel)
	if impl.KernelOk(k) && !impl.KernelOk(got.kernel) {
		t.Fatalf("a kernel is not right behind RunPart: %s", shownKernel(got.kernel))
	}
}

// instrsOf reads a code byte by byte.
func instrsOf(text string) []impl.Instr {
	var out []impl.Instr
	for i := 0; i+1 < len(text); i += 2 {
		out = append(out, impl.Instr{Op: int(text[i]), Arg: int(text[i+1])})
	}
	return out
}

// portOf is the port at a place, or a zero one, which is nobody's.
func portOf(k impl.Kernel, place int) impl.Port {
	if place >= len(k.Setup.Ports) {
		return impl.Port{}
	}
	return k.Setup.Ports[place]
}

// tellEffect changes a kernel that is a copy already; it answers what is put on the stack, and the trap.
func tellEffect(k *impl.Kernel, part int, e impl.Effect, ins []int) ([]int, int) {
	p := portOf(*k, e.Port)
	switch e.Kind {
	case impl.OpSend:
		if p.From != part {
			return nil, 7
		}
		after := tellSent(p, k.Lines[e.Port].Msgs, e.Num, k.Turn)
		k.Lines[e.Port].Msgs = after.msgs
		return []int{after.code}, 0
	case impl.OpTake:
		if p.To != part {
			return nil, 7
		}
		after := tellTaken(p, k.Lines[e.Port].Msgs, k.Turn)
		k.Lines[e.Port].Msgs = after.msgs
		return []int{after.num, after.code}, 0
	case impl.OpIn:
		return slices.Concat(ins, make([]int, 256))[e.Port : e.Port+1], 0
	case impl.OpOut:
		k.Outs[2*(part-1)+e.Port&1] = e.Num
	}
	return nil, 0
}

// tellOne is one instruction of a part; with a trap the kernel is the one that was handed in.
func tellOne(k impl.Kernel, part int, ins []int) (impl.Kernel, int) {
	p := k.Parts[part-1]
	s := stepping{p.Cpu.Pc, p.Cpu.Stack, instrsOf(k.Setup.Codes[part-1]), k.Arena.Cells, k.Setup.Regions[part-1], k.Turn}
	after := tellStep(s)
	if after.effect.Trap != 0 {
		return k, after.effect.Trap
	}
	puts := map[int]int{impl.OpSend: 1, impl.OpTake: 2, impl.OpIn: 1}[after.effect.Kind]
	if len(after.cpu.Stack) > 8-puts {
		return k, 4
	}
	next := copyOfKernel(k)
	next.Arena.Cells = after.arena.Cells
	numbers, trap := tellEffect(&next, part, after.effect, ins)
	if trap != 0 {
		return k, trap
	}
	for _, n := range numbers {
		after.cpu.Stack = append(after.cpu.Stack, ((n%65536)+65536)%65536)
	}
	next.Parts[part-1].Cpu = after.cpu
	return next, 0
}

func tellRunPart(k impl.Kernel, part int, budget int, ins []int) running {
	if !tellKernelOk(k) || part < 1 || part > len(k.Parts) {
		return running{k, 1, 6}
	}
	code := instrsOf(k.Setup.Codes[part-1])
	left := min(max(budget, 0), 1000)
	for {
		op := -1
		if pc := k.Parts[part-1].Cpu.Pc; pc < len(code) {
			op = code[pc].Op
		}
		left -= costIn(op)
		if left < 0 {
			return running{k, 2, 0}
		}
		trap := 0
		k, trap = tellOne(k, part, ins)
		if trap != 0 {
			return running{k, 1, trap}
		}
		if op == impl.OpEnd {
			k = copyOfKernel(k)
			p := &k.Parts[part-1]
			p.Cpu, p.Ends = impl.Cpu{}, min(p.Ends+1, 1000000000)
			return running{k, 0, 0}
		}
	}
}

func wantRunAsTold(t *testing.T, k impl.Kernel, part int, budget int, ins []int) running {
	t.Helper()
	want := tellRunPart(k, part, budget, ins)
	wantRunPart(t, k, part, budget, ins, want)
	return want
}

// Written out by hand: how a run is over, and where the machine stands then.
func TestRunPartOfSomeCode(t *testing.T) {
	for _, c := range []struct {
		code      string
		budget    int
		how, trap int
		pc        int
		stack     []int
		ends      int
	}{
		// OpEnd, with a budget that is just enough, one too few, and more.
		{"end", 1, 0, 0, 0, nil, 1}, {"end", 2, 0, 0, 0, nil, 1}, {"end", 1000, 0, 0, 0, nil, 1}, {"end", 1001, 0, 0, 0, nil, 1}, {"end", math.MaxInt, 0, 0, 0, nil, 1},
		{"end", 0, impl.FaultLate, 0, 0, nil, 0}, {"end", -1, impl.FaultLate, 0, 0, nil, 0}, {"end", -1000, impl.FaultLate, 0, 0, nil, 0}, {"end", math.MinInt, impl.FaultLate, 0, 0, nil, 0},
		{"push 3;end", 2, 0, 0, 0, nil, 1}, {"push 3;end", 1, impl.FaultLate, 0, 1, []int{3}, 0}, {"push 3;push 4;end;add", 3, 0, 0, 0, nil, 1}, {"push 3;push 4;end;add", 2, impl.FaultLate, 0, 2, []int{3, 4}, 0},
		// It is over at the first OpEnd.
		{"end;end", 9, 0, 0, 0, nil, 1}, {"push 3;end;jump 0", 900, 0, 0, 0, nil, 1},
		// What is too dear is not begun, and not passed over.
		{"push 3;push 5;mul;end", 3, impl.FaultLate, 0, 2, []int{3, 5}, 0}, {"push 3;push 5;mul;end", 4, impl.FaultLate, 0, 2, []int{3, 5}, 0},
		{"push 3;push 5;mul;end", 5, impl.FaultLate, 0, 3, []int{15}, 0}, {"push 3;push 5;mul;end", 6, 0, 0, 0, nil, 1},
		{"mul", 2, impl.FaultLate, 0, 0, nil, 0}, {"mul", 3, impl.FaultTrap, impl.TrapUnder, 0, nil, 0},
		{"take 1", 3, impl.FaultLate, 0, 0, nil, 0}, {"take 1", 4, impl.FaultLate, 0, 1, []int{0, 2}, 0}, {"in", 1, impl.FaultLate, 0, 0, nil, 0}, {"in", 2, impl.FaultLate, 0, 1, []int{0}, 0},
		// An instruction that is not there costs 1, and traps.
		{"", 0, impl.FaultLate, 0, 0, nil, 0}, {"", 1, impl.FaultTrap, impl.TrapCode, 0, nil, 0}, {"", -5, impl.FaultLate, 0, 0, nil, 0},
		{"push 3", 1, impl.FaultLate, 0, 1, []int{3}, 0}, {"push 3", 2, impl.FaultTrap, impl.TrapCode, 1, []int{3}, 0},
		{"jump 60", 1, impl.FaultLate, 0, 60, nil, 0}, {"jump 60", 2, impl.FaultTrap, impl.TrapCode, 60, nil, 0}, {"jump 255", 2, impl.FaultTrap, impl.TrapCode, 60, nil, 0}, {"jump 9", 2, impl.FaultTrap, impl.TrapCode, 9, nil, 0},
		// Each other trap; what was done ahead of it stays.
		{"push 4;load;end", 9, impl.FaultTrap, impl.TrapCell, 1, []int{4}, 0}, {"push 3;load;end", 9, 0, 0, 0, nil, 1}, {"push 2;push 9;store 2", 9, impl.FaultTrap, impl.TrapCell, 2, []int{2, 9}, 0},
		{"push 1;push 0;div", 9, impl.FaultTrap, impl.TrapZero, 2, []int{1, 0}, 0}, {"push 7;add", 9, impl.FaultTrap, impl.TrapUnder, 1, []int{7}, 0}, {"send", 9, impl.FaultTrap, impl.TrapUnder, 0, nil, 0}, {"out", 9, impl.FaultTrap, impl.TrapUnder, 0, nil, 0},
		{withPushes(9, ""), 99, impl.FaultTrap, impl.TrapOver, 8, slices.Repeat([]int{9}, 8), 0}, {"push 5;take 0", 9, impl.FaultTrap, impl.TrapPort, 1, []int{5}, 0}, {"push 5;send 1", 9, impl.FaultTrap, impl.TrapPort, 1, []int{5}, 0},
		// Code that goes round is out of budget.
		{"jump 0", 1, impl.FaultLate, 0, 0, nil, 0}, {"jump 0", 1000, impl.FaultLate, 0, 0, nil, 0}, {"jump 0", math.MaxInt, impl.FaultLate, 0, 0, nil, 0}, {"push;zero 0", 7, impl.FaultLate, 0, 1, []int{0}, 0},
	} {
		k := pairKernel(t, c.code, "end")
		want := copyOfKernel(k)
		want.Parts[0] = impl.Part{Cpu: impl.Cpu{Pc: c.pc, Stack: c.stack}, Ends: c.ends}
		wantRunPart(t, k, 1, c.budget, nil, running{want, c.how, c.trap})
	}
}

func TestRunPartOfNumbersThatAreNoOp(t *testing.T) {
	for op := 18; op < 256; op++ {
		k := pairKernel(t, "end", "end")
		k.Setup.Codes[1] = "\x01\x05" + string([]byte{byte(op), byte(255 - op)})
		want := copyOfKernel(k)
		want.Parts[1].Cpu = impl.Cpu{Pc: 1, Stack: []int{5}}
		wantRunPart(t, k, 2, 1, nil, running{want, impl.FaultLate, 0})
		wantRunPart(t, k, 2, 2, nil, running{want, impl.FaultTrap, impl.TrapOp})
	}
}

// A round of this code costs 9, and counts in the first cell how often it was gone.
const countingRound = "push 0;push 0;load;push 1;add;store;jump 0"

func TestRunPartStopsAtAThousand(t *testing.T) {
	for _, c := range []struct{ budget, rounds, pc int }{
		{8, 0, 6}, {9, 1, 0}, {10, 1, 1}, {200, 22, 2}, {990, 110, 0}, {998, 110, 6}, {999, 111, 0}, {1000, 111, 1}, {1001, 111, 1}, {1009, 111, 1}, {5000, 111, 1}, {math.MaxInt, 111, 1},
	} {
		k := pairKernel(t, countingRound, "end")
		got := runOf(k, 1, c.budget, nil)
		cpu := got.kernel.Parts[0].Cpu
		rounds := got.kernel.Arena.Cells[0]
		if c.pc == 6 {
			rounds--
		}
		if got.how != impl.FaultLate || got.trap != 0 || cpu.Pc != c.pc || rounds != c.rounds || got.kernel.Parts[0].Late != 0 {
			t.Errorf("RunPart with the budget %d was over by %d, %d at %v with %d rounds, want %d", c.budget, got.how, got.trap, cpu, rounds, c.rounds)
		}
	}
}

// A part goes on where it stood; so many at once is as many in pieces, as long as no instruction is dearer than what is left.
func TestRunPartGoesOnFromItsCpu(t *testing.T) {
	k := pairKernel(t, "push 1;push 2;add;push 3;add;out;end", "end")
	for i, want := range []impl.Cpu{{Pc: 1, Stack: []int{1}}, {Pc: 2, Stack: []int{1, 2}}, {Pc: 3, Stack: []int{3}}, {Pc: 4, Stack: []int{3, 3}}, {Pc: 5, Stack: []int{6}}} {
		next := runOf(k, 1, 1, nil)
		if cpu := next.kernel.Parts[0].Cpu; next.how != impl.FaultLate || cpu.Pc != want.Pc || !slices.Equal(cpu.Stack, want.Stack) {
			t.Fatalf("behind %d runs the machine is %v, want %v", i+1, cpu, want)
		}
		k = next.kernel
	}
	wantRunPart(t, k, 1, 1, nil, running{k, impl.FaultLate, 0})
	want := copyOfKernel(k)
	want.Outs[0], want.Parts[0] = 6, impl.Part{Ends: 1}
	wantRunPart(t, k, 1, 3, nil, running{want, 0, 0})
	// From any place, and with any stack, that a right kernel has.
	for pc := range 61 {
		for size := range 9 {
			k := pairKernel(t, "push 1;push 2;add;push 3;add;out;end;send 0;take 1;in;drop;store;end", "end")
			k.Parts[0].Cpu = impl.Cpu{Pc: pc, Stack: someStack(size)}
			wantRunAsTold(t, k, 1, 40, []int{9})
		}
	}
}

// withLine is the pair's kernel at the turn 100, with messages on one line.
func withLine(t *testing.T, code string, place int, msgs ...impl.Msg) impl.Kernel {
	k := pairKernel(t, code, code)
	k.Turn = 100
	k.Lines[place].Msgs = msgs
	return k
}

// sentTo is one OpSend of the number 7 by a part, and what comes of it.
func sentTo(t *testing.T, part int, place int, before []impl.Msg, code int, after []impl.Msg) {
	t.Helper()
	k := withLine(t, fmt.Sprintf("push 7;send %d", place), place, before...)
	want := copyOfKernel(k)
	want.Parts[part-1].Cpu = impl.Cpu{Pc: 2, Stack: []int{code}}
	want.Lines[place].Msgs = after
	wantRunPart(t, k, part, 5, nil, running{want, impl.FaultLate, 0})
}

func TestRunPartSends(t *testing.T) {
	seven := impl.Msg{Num: 7, Stamp: 100}
	some := someMsgs(3)
	sentTo(t, 1, 0, nil, impl.CodeFine, []impl.Msg{seven})
	sentTo(t, 1, 0, some[:1], impl.CodeFine, []impl.Msg{some[0], seven})
	sentTo(t, 1, 0, some[:2], impl.CodeFull, some[:2])
	sentTo(t, 2, 1, some[:2], impl.CodeFine, []impl.Msg{some[0], some[1], seven})
	sentTo(t, 2, 1, some, impl.CodeFull, some)
	sentTo(t, 1, 2, nil, impl.CodeFine, []impl.Msg{seven})
	sentTo(t, 1, 2, some[:1], impl.CodeFine, []impl.Msg{seven})
	sentTo(t, 2, 3, some[:1], impl.CodeFine, []impl.Msg{seven})
}

// tookFrom is one OpTake by a part, and what comes of it: the number below the code.
func tookFrom(t *testing.T, part int, place int, before []impl.Msg, num int, code int, after []impl.Msg) {
	t.Helper()
	k := withLine(t, fmt.Sprintf("push 5;take %d", place), place, before...)
	want := copyOfKernel(k)
	want.Parts[part-1].Cpu = impl.Cpu{Pc: 2, Stack: []int{5, num, code}}
	want.Lines[place].Msgs = after
	wantRunPart(t, k, part, 5, nil, running{want, impl.FaultLate, 0})
}

func TestRunPartTakes(t *testing.T) {
	some := someMsgs(3)
	tookFrom(t, 2, 0, nil, 0, impl.CodeEmpty, nil)
	tookFrom(t, 2, 0, some[:1], 100, impl.CodeFine, nil)
	tookFrom(t, 2, 0, some[:2], 100, impl.CodeFine, some[1:2])
	tookFrom(t, 1, 1, nil, 0, impl.CodeEmpty, nil)
	tookFrom(t, 1, 1, some, 100, impl.CodeFine, some[1:])
	tookFrom(t, 1, 3, nil, 0, impl.CodeEmpty, nil)
	// A sample is fresh up to its Fresh above its Stamp, and stays; at the turn 100.
	for _, c := range []struct{ part, place, stamp, code int }{
		{1, 3, 100, impl.CodeFine}, {1, 3, 96, impl.CodeFine}, {1, 3, 95, impl.CodeFine}, {1, 3, 94, impl.CodeOld}, {1, 3, 0, impl.CodeOld}, {1, 3, 101, impl.CodeFine}, {1, 3, math.MaxInt, impl.CodeFine}, {1, 3, math.MinInt, impl.CodeOld},
		{2, 2, 100, impl.CodeFine}, {2, 2, 99, impl.CodeFine}, {2, 2, 98, impl.CodeOld},
	} {
		one := []impl.Msg{{Num: 41, Stamp: c.stamp}}
		tookFrom(t, c.part, c.place, one, 41, c.code, one)
	}
	// A line of a right kernel may hold any number; a stack may not.
	for _, c := range []struct{ num, word int }{{-1, 65535}, {65536, 0}, {65537, 1}, {-65536, 0}, {math.MaxInt, 65535}, {math.MinInt, 0}} {
		one := []impl.Msg{{Num: c.num, Stamp: 99}}
		tookFrom(t, 1, 3, one, c.word, impl.CodeFine, one)
		tookFrom(t, 2, 0, one, c.word, impl.CodeFine, nil)
	}
}

// Another part's port, one's own in the wrong direction, and a place without one are all the same: a trap, ahead of which nothing is done.
func TestRunPartTrapsAtPortsThatAreNotItsOwn(t *testing.T) {
	for place := range 256 {
		for part := 1; part <= 2; part++ {
			for _, op := range []string{"send", "take"} {
				own := place < 4 && ((op == "send") == (place%2 == part-1))
				k := pairKernel(t, fmt.Sprintf("push 7;%s %d", op, place), fmt.Sprintf("push 7;%s %d", op, place))
				for i, p := range k.Setup.Ports {
					k.Lines[i].Msgs = someMsgs(p.Most)
				}
				got := wantRunAsTold(t, k, part, 5, nil)
				want := copyOfKernel(k)
				want.Parts[part-1].Cpu = impl.Cpu{Pc: 1, Stack: []int{7}}
				if !own {
					wantRunPart(t, k, part, 5, nil, running{want, impl.FaultTrap, impl.TrapPort})
				} else if got.how != impl.FaultLate {
					t.Fatalf("the part %d may not %s at the port %d", part, op, place)
				}
			}
		}
	}
	// Ports that are between others are neither's; those without ports have none.
	k := newKernel(t, fullSetup())
	k.Setup.Codes[1] = textOf(t, "push 7;send 0")
	got := runOf(k, 2, 9, nil)
	if got.trap != impl.TrapPort {
		t.Errorf("a port of others is over by %d, %d", got.how, got.trap)
	}
	k = newKernel(t, impl.Setup{Regions: []impl.Region{{Size: 1}}, Plan: []impl.Window{{Part: 1, Budget: 1}}, Codes: []string{textOf(t, "take 0")}})
	wantRunPart(t, k, 1, 9, nil, running{k, impl.FaultTrap, impl.TrapPort})
}

// TrapOver goes ahead of the effect and of TrapPort: nothing is taken or sent, and all is as it was.
func TestRunPartOfAnswersThatHaveNoRoom(t *testing.T) {
	for _, c := range []struct {
		text  string
		needs int
		own   bool
	}{
		{"take 1", 2, true}, {"take 3", 2, true}, {"take 0", 2, false}, {"take 2", 2, false}, {"take 4", 2, false}, {"take 255", 2, false},
		{"in 0", 1, true}, {"in 5", 1, true}, {"in 255", 1, true},
	} {
		for size := range 9 {
			k := pairKernel(t, c.text, "end")
			k.Turn = 9
			for i, p := range k.Setup.Ports {
				k.Lines[i].Msgs = someMsgs(p.Most)
			}
			k.Parts[0].Cpu.Stack = someStack(size)
			// Just enough for the one instruction: a number that is put costs 2.
			budget := 2 * c.needs
			got := wantRunAsTold(t, k, 1, budget, []int{31})
			switch {
			case size+c.needs > 8:
				wantRunPart(t, k, 1, budget, []int{31}, running{k, impl.FaultTrap, impl.TrapOver})
			case !c.own:
				wantRunPart(t, k, 1, budget, []int{31}, running{k, impl.FaultTrap, impl.TrapPort})
			case got.trap != 0 || len(got.kernel.Parts[0].Cpu.Stack) != size+c.needs:
				t.Errorf("%s with %d numbers was over by %d, %d", c.text, size, got.how, got.trap)
			}
		}
	}
	// OpSend takes one number ahead of its one answer, and OpOut has none: these always have room.
	for size := 1; size <= 8; size++ {
		for _, text := range []string{"send 0", "out 1"} {
			k := pairKernel(t, text, "end")
			k.Parts[0].Cpu.Stack = someStack(size)
			if got := wantRunAsTold(t, k, 1, 4, nil); got.trap == impl.TrapOver || got.kernel.Parts[0].Cpu.Pc != 1 {
				t.Errorf("%s with %d numbers was over by %d, %d", text, size, got.how, got.trap)
			}
		}
	}
}

func TestRunPartReadsIns(t *testing.T) {
	ins := []int{11, 0, 65535, 65536, -1, math.MaxInt, math.MinInt, 70000}
	words := []int{11, 0, 65535, 0, 65535, 65535, 0, 4464}
	for place := range 256 {
		for part := 1; part <= 2; part++ {
			k := pairKernel(t, fmt.Sprintf("in %d", place), fmt.Sprintf("in %d", place))
			word := 0
			if place < len(words) {
				word = words[place]
			}
			want := copyOfKernel(k)
			want.Parts[part-1].Cpu = impl.Cpu{Pc: 1, Stack: []int{word}}
			wantRunPart(t, k, part, 2, ins, running{want, impl.FaultLate, 0})
			want.Parts[part-1].Cpu.Stack[0] = 0
			wantRunPart(t, k, part, 2, nil, running{want, impl.FaultLate, 0})
			// What stands in the spare room behind ins is none of them.
			wantRunPart(t, k, part, 2, ins[:0], running{want, impl.FaultLate, 0})
			want.Parts[part-1].Cpu.Stack[0] = place + 1
			long := make([]int, 300)
			for i := range long {
				long[i] = i + 1
			}
			wantRunPart(t, k, part, 2, long, running{want, impl.FaultLate, 0})
		}
	}
}

func TestRunPartWritesItsOwnRegisters(t *testing.T) {
	for part := 1; part <= 4; part++ {
		for port := range 256 {
			k := busyKernel()
			k.Parts[part-1].Cpu = impl.Cpu{}
			k.Setup.Codes[part-1] = textOf(t, fmt.Sprintf("push 0;push 1;sub;out %d", port))
			want := copyOfKernel(k)
			want.Parts[part-1].Cpu.Pc = 4
			want.Outs[[]int{0, 2, 4, 6}[part-1]+port%2] = 65535
			wantRunPart(t, k, part, 5, nil, running{want, impl.FaultLate, 0})
		}
	}
}

// Time is the kernel's turn.
func TestRunPartTellsTime(t *testing.T) {
	for _, c := range []struct{ turn, word int }{{0, 0}, {1, 1}, {65535, 65535}, {65536, 0}, {65537, 1}, {1000000000, 51712}} {
		k := pairKernel(t, "time;push 7;send 0", "end")
		k.Turn = c.turn
		want := copyOfKernel(k)
		want.Parts[0].Cpu = impl.Cpu{Pc: 3, Stack: []int{c.word, 0}}
		want.Lines[0].Msgs = []impl.Msg{{Num: 7, Stamp: c.turn}}
		wantRunPart(t, k, 1, 6, nil, running{want, impl.FaultLate, 0})
	}
}

// Neither a part that is halted nor a kernel that is stopped is asked about: that is what a turn does.
func TestRunPartOfHaltedPartsAndStoppedKernels(t *testing.T) {
	k := pairKernel(t, "push 7;out;end", "end")
	k.Parts[0].State, k.Stopped = impl.PartHalted, true
	want := copyOfKernel(k)
	want.Outs[0], want.Parts[0].Ends = 7, 1
	wantRunPart(t, k, 1, 9, nil, running{want, 0, 0})
}

func TestRunPartOfKernelsThatAreNotRight(t *testing.T) {
	for _, c := range allChanges() {
		k := busyKernel()
		c.make(&k)
		for part := 1; part <= 4; part++ {
			for _, budget := range []int{0, 1, 30} {
				if !c.right {
					wantRunPart(t, k, part, budget, []int{3}, running{k, impl.FaultTrap, impl.TrapCode})
				}
				wantRunAsTold(t, k, part, budget, []int{3})
			}
		}
	}
	for _, s := range wrongSetups()[:40] {
		k := tellNew(s)
		wantRunPart(t, k, 1, 9, nil, running{k, impl.FaultTrap, impl.TrapCode})
	}
	wantRunPart(t, impl.Kernel{}, 1, 9, nil, running{impl.Kernel{}, impl.FaultTrap, impl.TrapCode})
}

func TestRunPartOfPartsThatAreNone(t *testing.T) {
	for regions := 1; regions <= 4; regions++ {
		k := newKernel(t, setupOf(regions, true, true))
		for _, part := range append([]int{regions + 1, regions + 2, 5, 9}, noParts...) {
			for _, budget := range []int{math.MinInt, 0, 1, 50, math.MaxInt} {
				wantRunPart(t, k, part, budget, nil, running{k, impl.FaultTrap, impl.TrapCode})
			}
		}
	}
}

// A count that is as high as it may be stays so: else the kernel would not be right any more.
func TestRunPartCountsUpToMaxNumber(t *testing.T) {
	for _, c := range []struct{ before, after int }{{0, 1}, {999999998, 999999999}, {999999999, 1000000000}, {1000000000, 1000000000}} {
		k := pairKernel(t, "end", "end")
		k.Parts[1].Ends = c.before
		want := copyOfKernel(k)
		want.Parts[1].Ends = c.after
		wantRunPart(t, k, 2, 1, nil, running{want, 0, 0})
	}
}

// Two parts tell one another something, run by run.
func TestRunPartsTellOneAnother(t *testing.T) {
	k := pairKernel(t, "push 5;send 0;drop;push 6;send 0;out;end", "take 0;drop;out;take 0;drop;out 1;take 0;push 1;push 0;store;end")
	k = runOf(k, 1, 100, nil).kernel
	if len(k.Lines[0].Msgs) != 2 || k.Outs[0] != impl.CodeFine {
		t.Fatalf("what was sent is %v", k.Lines[0])
	}
	k = runOf(k, 1, 100, nil).kernel
	if k.Outs[0] != impl.CodeFull || len(k.Lines[0].Msgs) != 2 {
		t.Fatalf("a line that is full is told by %d", k.Outs[0])
	}
	got := runOf(k, 2, 100, nil)
	if got.how != 0 || got.kernel.Outs[2] != 5 || got.kernel.Outs[3] != 6 || len(got.kernel.Lines[0].Msgs) != 0 {
		t.Fatalf("what is taken is %v, over by %d, %d", got.kernel.Outs, got.how, got.trap)
	}
}

// drawnCode draws instructions that mostly don't trap at once; ports are asked for up to a few places.
func drawnCode(d *drawer, size int) string {
	var out []byte
	for range size {
		one := d.instr()
		switch d.below(5) {
		case 0:
			one = impl.Instr{Op: impl.OpIn + d.below(3), Arg: d.below(4)}
		case 1:
			one = impl.Instr{Op: impl.OpSend + d.below(2), Arg: d.below(7)}
		case 2:
			one = impl.Instr{Op: impl.OpDrop}
		}
		out = append(out, byte(one.Op), byte(one.Arg))
	}
	return string(out)
}

// placesForPart tells at which places of the list the part's own ports stand, to send over or to take from.
func placesForPart(ports []impl.Port, part int, op int) []int {
	var out []int
	for i, p := range ports {
		if op == impl.OpSend && p.From == part || op == impl.OpTake && p.To == part {
			out = append(out, i)
		}
	}
	return out
}

// drawnPiece draws instructions that leave as many numbers as there were, and mostly don't trap.
func drawnPiece(d *drawer, part int, ports []impl.Port) []impl.Instr {
	push := impl.Instr{Op: impl.OpPush, Arg: d.below(256)}
	cell := impl.Instr{Op: impl.OpPush, Arg: d.below(2)}
	drop := impl.Instr{Op: impl.OpDrop}
	out := impl.Instr{Op: impl.OpOut, Arg: d.below(4)}
	store := impl.Instr{Op: impl.OpStore}
	send, take := placesForPart(ports, part, impl.OpSend), placesForPart(ports, part, impl.OpTake)
	switch which := d.below(12); {
	case which < 4 && len(send) > 0:
		return []impl.Instr{{Op: impl.OpIn, Arg: d.below(3)}, push, {Op: impl.OpAdd}, {Op: impl.OpSend, Arg: send[d.below(len(send))]}, out}
	case which < 8 && len(take) > 0:
		return []impl.Instr{cell, {Op: impl.OpTake, Arg: take[d.below(len(take))]}, out, store}
	case which == 8:
		return []impl.Instr{cell, cell, {Op: impl.OpLoad}, {Op: impl.OpIn, Arg: d.below(3)}, {Op: impl.OpAdd}, store}
	case which == 9:
		return []impl.Instr{cell, {Op: impl.OpTime}, store, {Op: impl.OpTime}, out}
	case which == 10:
		return []impl.Instr{push, {Op: impl.OpZero, Arg: d.below(30)}}
	}
	return []impl.Instr{push, push, {Op: impl.OpMul}, drop}
}

// drawnProgramme draws code that works for some turns, asks its own ports, and mostly comes to its end.
func drawnProgramme(d *drawer, part int, ports []impl.Port) string {
	var code []impl.Instr
	for range 1 + d.below(7) {
		code = append(code, drawnPiece(d, part, ports)...)
	}
	last := []impl.Instr{{Op: impl.OpEnd}, {Op: impl.OpEnd}, {Op: impl.OpEnd}, {Op: impl.OpJump}, {Op: impl.OpDrop}}
	code = append(code, last[d.below(len(last))])
	var out []byte
	for _, one := range code {
		out = append(out, byte(one.Op), byte(one.Arg))
	}
	return string(out)
}

func drawnMsgs(d *drawer, size int) []impl.Msg {
	odd := []int{0, 1, 7, 65535, 65536, -1, math.MaxInt, math.MinInt}
	var out []impl.Msg
	for range size {
		out = append(out, impl.Msg{Num: odd[d.below(len(odd))], Stamp: d.below(300) - 50})
	}
	return out
}

// drawnKernel is right, and at any point of a life, also of one that was never lived.
func drawnKernel(d *drawer) impl.Kernel {
	s := drawnSetup(d)
	for i := range s.Codes {
		s.Codes[i] = drawnProgramme(d, i+1, s.Ports)
		if d.below(2) == 0 {
			s.Codes[i] = drawnCode(d, d.below(40))
		}
	}
	k := tellNew(s)
	k.Turn = d.below(200)
	for i := range k.Arena.Cells {
		k.Arena.Cells[i] = wordEdges[d.below(len(wordEdges))]
	}
	for i := range k.Parts {
		var stack []int
		for range d.below(9) {
			stack = append(stack, d.below(5))
		}
		k.Parts[i] = impl.Part{State: d.below(5) / 4, Cpu: impl.Cpu{Pc: d.below(12), Stack: stack}, Starts: d.below(5), Ends: d.below(9), Late: d.below(9)}
	}
	for i, p := range s.Ports {
		k.Lines[i].Msgs = drawnMsgs(d, d.below(p.Most+1))
	}
	for i := range k.Outs {
		k.Outs[i] = d.below(65536)
	}
	k.Stopped = d.below(20) == 0
	k.Log = someLog(d.below(43))
	return k
}

func drawnIns(d *drawer) []int {
	var out []int
	for range d.below(6) {
		out = append(out, timeEdges[d.below(len(timeEdges))])
	}
	return out
}

func TestRunPartInDrawnKernels(t *testing.T) {
	d := drawer(120)
	overs := map[[2]int]int{}
	for range 20000 {
		k := drawnKernel(&d)
		part := 1 + d.below(len(k.Parts))
		if d.below(50) == 0 {
			part = d.below(7) - 1
		}
		got := wantRunAsTold(t, k, part, d.below(70)-2, drawnIns(&d))
		overs[[2]int{got.how, got.trap}]++
	}
	for trap := impl.TrapOp; trap <= impl.TrapPort; trap++ {
		if overs[[2]int{impl.FaultTrap, trap}] < 20 {
			t.Errorf("only %d drawn runs were over by the trap %d", overs[[2]int{impl.FaultTrap, trap}], trap)
		}
	}
	if overs[[2]int{0, 0}] < 100 || overs[[2]int{impl.FaultLate, 0}] < 100 {
		t.Errorf("the drawn runs were over by %v", overs)
	}
}
