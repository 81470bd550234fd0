package tests

import (
	"fmt"
	"math"
	"slices"
	"testing"

	"loop.example/g00200/impl"
)

// tellAnswered does what an act tells to a kernel that is a copy already.
func tellAnswered(k *impl.Kernel, part int, act int) {
	p := &k.Parts[part-1]
	if act == impl.ActWarm || act == impl.ActCold {
		p.Cpu = impl.Cpu{}
		p.Starts++
	}
	for _, place := range placesOf(64, k.Setup.Regions[part-1]) {
		if act == impl.ActCold {
			k.Arena.Cells[place] = 0
		}
	}
	if act == impl.ActHalt {
		p.State = 1
		k.Outs[2*part-2], k.Outs[2*part-1] = 0, 0
	}
	if act == impl.ActStop {
		k.Stopped = true
		k.Outs = make([]int, 8)
	}
}

func tellTurn(k impl.Kernel, ins []int) impl.Kernel {
	if !tellKernelOk(k) || k.Turn == 1000000000 {
		return k
	}
	w := tellWindow(k.Setup.Plan, k.Turn)
	r := running{kernel: k}
	if !k.Stopped && k.Parts[w.Part-1].State == 0 {
		r = tellRunPart(k, w.Part, w.Budget, ins)
	}
	next := copyOfKernel(r.kernel)
	next.Turn++
	if r.how == 0 {
		return next
	}
	p := &next.Parts[w.Part-1]
	if r.how == impl.FaultLate {
		p.Late = min(p.Late+1, 1000000000)
	}
	act := tellAct(k.Setup.Rules, w.Part, r.how, p.Starts)
	next.Log = append(next.Log, impl.Entry{Turn: k.Turn, Part: w.Part, Fault: r.how, Trap: r.trap, Act: act})
	if len(k.Log) > 39 {
		next.Log = next.Log[1:]
	}
	tellAnswered(&next, w.Part, act)
	return next
}

func tellTurns(k impl.Kernel, n int, ins [][]int) impl.Kernel {
	for i := range min(max(n, 0), 200) {
		var one []int
		if i < len(ins) {
			one = ins[i]
		}
		k = tellTurn(k, one)
	}
	return k
}

func wantTurn(t *testing.T, k impl.Kernel, ins []int, want impl.Kernel) {
	t.Helper()
	got := impl.TurnOf(k, ins)
	wantKernel(t, fmt.Sprintf("TurnOf at the turn %d with %.90v", k.Turn, ins), got, want)
	if impl.KernelOk(k) && !impl.KernelOk(got) {
		t.Fatalf("a kernel is not right behind TurnOf: %s", shownKernel(got))
	}
}

func wantTurns(t *testing.T, k impl.Kernel, n int, ins [][]int, want impl.Kernel) {
	t.Helper()
	wantKernel(t, fmt.Sprintf("RunTurns of %d from the turn %d on", n, k.Turn), impl.RunTurns(k, n, ins), want)
}

// endsOf tells how often each part came to its end.
func endsOf(k impl.Kernel) []int {
	var out []int
	for _, p := range k.Parts {
		out = append(out, p.Ends)
	}
	return out
}

func TestTurnsGoRound(t *testing.T) {
	s := impl.Setup{
		Regions: []impl.Region{{From: 0, Size: 1}, {From: 1, Size: 1}, {From: 2, Size: 1}},
		Plan:    []impl.Window{{Part: 1, Budget: 5}, {Part: 3, Budget: 1}, {Part: 1, Budget: 5}, {Part: 2, Budget: 200}},
		Codes:   slices.Repeat([]string{textOf(t, "end")}, 3),
	}
	k := newKernel(t, s)
	for turn, want := range [][]int{{0, 0, 0}, {1, 0, 0}, {1, 0, 1}, {2, 0, 1}, {2, 1, 1}, {3, 1, 1}, {3, 1, 2}, {4, 1, 2}, {4, 2, 2}, {5, 2, 2}} {
		if k.Turn != turn || !slices.Equal(endsOf(k), want) || k.Stopped || len(k.Log) != 0 {
			t.Fatalf("behind %d turns it is %s", turn, shownKernel(k))
		}
		k = impl.TurnOf(k, nil)
	}
	// From the middle of a life on: 999999998 is two behind a multiple of four.
	k.Turn = 999999998
	if got := endsOf(impl.TurnOf(k, nil)); !slices.Equal(got, []int{6, 2, 3}) {
		t.Errorf("at a great turn the ends are %v", got)
	}
}

// A window that has no fault is RunPart of its part and Budget, and Turn is one more.
func TestATurnIsARunOfItsWindow(t *testing.T) {
	d := drawer(121)
	alike := 0
	for range 3000 {
		k := drawnKernel(&d)
		ins := drawnIns(&d)
		w := tellWindow(k.Setup.Plan, k.Turn)
		r := runOf(k, w.Part, w.Budget, ins)
		if r.how != 0 || k.Stopped || k.Parts[w.Part-1].State != 0 {
			continue
		}
		want := r.kernel
		want.Turn++
		wantTurn(t, k, ins, want)
		alike++
	}
	if alike < 100 {
		t.Errorf("only %d drawn turns were without a fault", alike)
	}
}

// Written out by hand: the time of a turn is the turn that its window stands at.
func TestTurnsTellTime(t *testing.T) {
	k := pairKernel(t, "time;out;push 7;send 0;end", "take 0;drop;drop;time;out 1;end")
	k.Turn = 40
	want := copyOfKernel(k)
	want.Turn, want.Outs[0], want.Parts[0].Ends = 41, 40, 1
	want.Lines[0].Msgs = []impl.Msg{{Num: 7, Stamp: 40}}
	wantTurn(t, k, nil, want)
	k = want
	want = copyOfKernel(k)
	want.Turn, want.Outs[3], want.Parts[1].Ends = 42, 41, 1
	want.Lines[0].Msgs = nil
	wantTurn(t, k, nil, want)
}

// A sample that is sent at each turn of one part grows old when that part is halted.
func TestSamplesGrowOldByTurns(t *testing.T) {
	k := pairKernel(t, "take 3;out;out 1;end", "push 9;send 3;end")
	k = impl.RunTurns(k, 3, nil)
	if k.Outs[0] != impl.CodeFine || k.Outs[1] != 9 {
		t.Fatalf("a sample of the turn ahead is taken as %v", k.Outs)
	}
	k.Parts[1].State = impl.PartHalted
	// The last stamp is 1; its Fresh is 5.
	for _, c := range []struct{ turns, code int }{{2, impl.CodeFine}, {2, impl.CodeFine}, {2, impl.CodeOld}, {2, impl.CodeOld}} {
		k = impl.RunTurns(k, c.turns, nil)
		if k.Outs[0] != c.code || k.Outs[1] != 9 {
			t.Fatalf("at the turn %d the sample is taken as %v, want %d", k.Turn, k.Outs, c.code)
		}
	}
}

// faultyKernel is at the turn 40, whose window is the first part's; there the code ends by the fault, with 9 in its second cell, and 3 and 4 in its registers.
func faultyKernel(t *testing.T, fault int) impl.Kernel {
	t.Helper()
	last := "push 8;push 0;div"
	if fault == impl.FaultLate {
		last = "push 8;push 0;jump 9"
	}
	k := pairKernel(t, "push 0;push 9;store 1;push 3;out;push 4;out 1;"+last, "end")
	k.Turn = 40
	k.Arena.Cells = someCells(64)
	k.Outs = someStack(8)
	k.Parts[0].Ends, k.Parts[0].Late = 20, 30
	k.Parts[1] = impl.Part{Cpu: impl.Cpu{Pc: 1, Stack: []int{6}}, Starts: 1, Ends: 2, Late: 3}
	k.Lines[1].Msgs = someMsgs(2)
	return k
}

// behindFault is what the faulty kernel is when nothing is done about it.
func behindFault(k impl.Kernel, fault int, act int) impl.Kernel {
	want := copyOfKernel(k)
	want.Turn = 41
	want.Arena.Cells[1] = 9
	want.Outs[0], want.Outs[1] = 3, 4
	want.Parts[0].Cpu = impl.Cpu{Pc: 9, Stack: []int{8, 0}}
	trap := impl.TrapZero
	if fault == impl.FaultLate {
		trap = 0
		want.Parts[0].Late++
	}
	want.Log = append(want.Log, impl.Entry{Turn: 40, Part: 1, Fault: fault, Trap: trap, Act: act})
	return want
}

func wantAnswered(t *testing.T, fault int, rules []impl.Rule, starts int, act int) {
	t.Helper()
	k := faultyKernel(t, fault)
	k.Setup.Rules = rules
	k.Parts[0].Starts = starts
	want := behindFault(k, fault, act)
	switch act {
	case impl.ActCold:
		want.Arena.Cells[0], want.Arena.Cells[1], want.Arena.Cells[2], want.Arena.Cells[3] = 0, 0, 0, 0
		want.Parts[0].Cpu, want.Parts[0].Starts = impl.Cpu{}, starts+1
	case impl.ActWarm:
		want.Parts[0].Cpu, want.Parts[0].Starts = impl.Cpu{}, starts+1
	case impl.ActHalt:
		want.Parts[0].State = impl.PartHalted
		want.Outs[0], want.Outs[1] = 0, 0
	case impl.ActStop:
		want.Stopped = true
		want.Outs = make([]int, 8)
	}
	wantTurn(t, k, nil, want)
}

func TestTurnOfEachAct(t *testing.T) {
	for _, starts := range []int{0, 1, 2, 3, 4, 999999999, 1000000000} {
		for fault := impl.FaultTrap; fault <= impl.FaultLate; fault++ {
			// Rules of the other part, and of the other fault, don't count.
			others := []impl.Rule{{Part: 2, Fault: fault, Act: 4}, {Part: 1, Fault: 3 - fault, Act: 4}}
			without := impl.ActGo
			if fault == impl.FaultTrap {
				without = impl.ActHalt
			}
			wantAnswered(t, fault, nil, starts, without)
			wantAnswered(t, fault, others, starts, without)
			for act := impl.ActGo; act <= impl.ActStop; act++ {
				if fault == impl.FaultTrap && act == impl.ActGo {
					continue
				}
				want := act
				if starts >= 3 && (act == impl.ActWarm || act == impl.ActCold) {
					want = impl.ActHalt
				}
				own := impl.Rule{Part: 1, Fault: fault, Act: act}
				wantAnswered(t, fault, []impl.Rule{own}, starts, want)
				wantAnswered(t, fault, append(slices.Clone(others), own), starts, want)
			}
		}
	}
}

// A fault in every other trap than those above, by code that has one instruction.
func TestTurnOfEachTrap(t *testing.T) {
	for _, c := range []struct {
		code string
		trap int
	}{
		{"add", impl.TrapUnder}, {"", impl.TrapCode}, {"take 0", impl.TrapPort}, {"dup", impl.TrapUnder},
		{"jump 60", impl.TrapCode}, {withPushes(9, ""), impl.TrapOver}, {withPushes(7, "take 1"), impl.TrapOver}, {"push 4;load", impl.TrapCell},
	} {
		k := pairKernel(t, c.code, "end")
		got := impl.TurnOf(k, nil)
		want := impl.Entry{Turn: 0, Part: 1, Fault: impl.FaultTrap, Trap: c.trap, Act: impl.ActHalt}
		if len(got.Log) != 1 || got.Log[0] != want || got.Parts[0].State != impl.PartHalted || got.Parts[0].Late != 0 {
			t.Errorf("%q: %s", c.code, shownKernel(got))
		}
		wantTurn(t, k, nil, tellTurn(k, nil))
	}
	k := pairKernel(t, "end", "end")
	k.Setup.Codes[0] = "\x12\x00"
	if got := impl.TurnOf(k, nil); len(got.Log) != 1 || got.Log[0].Trap != impl.TrapOp {
		t.Errorf("no Op: %s", shownKernel(got))
	}
}

// Who starts too often is halted: three starts, and then no more.
func TestPartsThatStartTooOften(t *testing.T) {
	for _, c := range []struct {
		code       string
		fault, act int
	}{{"add", impl.FaultTrap, impl.ActWarm}, {"add", impl.FaultTrap, impl.ActCold}, {"jump 0", impl.FaultLate, impl.ActWarm}, {"jump 0", impl.FaultLate, impl.ActCold}} {
		k := pairKernel(t, c.code, "end")
		k.Setup.Rules = []impl.Rule{{Part: 1, Fault: c.fault, Act: c.act}}
		for i, starts := range []int{1, 2, 3, 3, 3, 3} {
			k = impl.RunTurns(k, 2, nil)
			halted := i >= 3
			if k.Parts[0].Starts != starts || (k.Parts[0].State == impl.PartHalted) != halted || len(k.Log) != min(i+1, 4) {
				t.Fatalf("behind %d rounds it is %s", i+1, shownKernel(k))
			}
		}
		for i, act := range []int{c.act, c.act, c.act, impl.ActHalt} {
			if e := k.Log[i]; e.Act != act || e.Turn != 2*i || e.Part != 1 || e.Fault != c.fault {
				t.Errorf("the entry %d is %v", i, e)
			}
		}
		if k.Parts[1].Ends != 6 {
			t.Errorf("the other part came to its end %d times", k.Parts[1].Ends)
		}
	}
}

// Late without a rule goes on where it stood, window by window.
func TestPartsThatAreLateGoOn(t *testing.T) {
	k := pairKernel(t, countingRound, "end")
	for rounds := 1; rounds <= 5; rounds++ {
		k = impl.RunTurns(k, 2, nil)
		if k.Parts[0].Late != rounds || k.Parts[0].Starts != 0 || len(k.Log) != rounds || k.Log[rounds-1].Act != impl.ActGo {
			t.Fatalf("behind %d rounds it is %s", rounds, shownKernel(k))
		}
	}
	// A budget of 50 leaves 5 of a round the first time, which the next window goes on with; what a dear instruction leaves is lost.
	if n := k.Arena.Cells[0]; n != 27 {
		t.Errorf("it has counted %d", n)
	}
}

func TestTurnOfHaltedPartsAndStoppedKernels(t *testing.T) {
	for _, stopped := range []bool{false, true} {
		for _, halted := range []bool{false, true} {
			if !stopped && !halted {
				continue
			}
			for fault := impl.FaultTrap; fault <= impl.FaultLate; fault++ {
				k := faultyKernel(t, fault)
				k.Stopped = stopped
				if halted {
					k.Parts[0].State = impl.PartHalted
				}
				want := copyOfKernel(k)
				want.Turn = 41
				wantTurn(t, k, []int{5}, want)
			}
		}
	}
	// Another part that is halted does not matter.
	k := faultyKernel(t, impl.FaultTrap)
	k.Parts[1].State = impl.PartHalted
	if got := impl.TurnOf(k, nil); got.Parts[0].State != impl.PartHalted || len(got.Log) != 1 {
		t.Errorf("beside a halted part it is %s", shownKernel(got))
	}
}

func TestStoppedKernelsStayAsTheyAre(t *testing.T) {
	k := pairKernel(t, "push 7;out;end", "push 8;out;add")
	k.Setup.Rules = []impl.Rule{{Part: 2, Fault: impl.FaultTrap, Act: impl.ActStop}}
	k = impl.RunTurns(k, 2, nil)
	if !k.Stopped || slices.Max(k.Outs) != 0 || k.Parts[0].State != impl.PartReady || k.Parts[1].State != impl.PartReady {
		t.Fatalf("it is not stopped: %s", shownKernel(k))
	}
	want := copyOfKernel(k)
	for turn := 3; turn <= 9; turn++ {
		want.Turn = turn
		wantTurn(t, k, nil, want)
		k = impl.TurnOf(k, nil)
	}
}

func TestLogsKeepTheLastEntries(t *testing.T) {
	for _, size := range []int{0, 1, 38, 39, 40, 41, 42, 100} {
		k := faultyKernel(t, impl.FaultLate)
		k.Log = someLog(size)
		one := impl.Entry{Turn: 40, Part: 1, Fault: impl.FaultLate, Act: impl.ActGo}
		want := append(someLog(size), one)
		if size >= 40 {
			want = want[1:]
		}
		got := impl.TurnOf(k, nil)
		if !slices.Equal(got.Log, want) {
			t.Errorf("a log of %d is one of %d then: %.300v", size, len(got.Log), got.Log)
		}
	}
	// A turn without a fault leaves a log as it is, be it too long or not.
	for _, size := range []int{0, 39, 40, 41, 100} {
		k := faultyKernel(t, impl.FaultLate)
		k.Turn = 41
		k.Setup.Codes[1] = textOf(t, "end;end")
		k.Log = someLog(size)
		if got := impl.TurnOf(k, nil); !slices.Equal(got.Log, someLog(size)) {
			t.Errorf("without a fault a log of %d is one of %d", size, len(got.Log))
		}
	}
	// In a life: 100 faults one behind the other.
	k := pairKernel(t, "jump 0", "jump 0")
	for turns := 1; turns <= 100; turns++ {
		k = impl.TurnOf(k, nil)
		if len(k.Log) != min(turns, 40) || k.Log[len(k.Log)-1].Turn != turns-1 || k.Log[0].Turn != max(0, turns-40) {
			t.Fatalf("behind %d faults the log is %v", turns, k.Log)
		}
	}
}

func TestTurnOfTheLastTurn(t *testing.T) {
	for fault := impl.FaultTrap; fault <= impl.FaultLate; fault++ {
		k := faultyKernel(t, fault)
		k.Turn = 1000000000
		wantTurn(t, k, nil, k)
		wantTurns(t, k, 200, nil, k)
		k.Stopped = true
		wantTurn(t, k, nil, k)
		k.Stopped = false
		k.Turn = 999999998
		want := tellTurn(k, nil)
		wantTurn(t, k, nil, want)
		if got := impl.RunTurns(k, 200, nil); got.Turn != 1000000000 {
			t.Errorf("behind the last turn it is %d", got.Turn)
		}
	}
	k := pairKernel(t, "end", "end")
	k.Turn = 999999999
	want := copyOfKernel(k)
	want.Turn, want.Parts[1].Ends = 1000000000, 1
	wantTurn(t, k, nil, want)
	wantTurns(t, k, 50, nil, want)
}

// Counts that are as high as they may be stay so: else the kernel would not be right any more.
func TestTurnsCountUpToMaxNumber(t *testing.T) {
	for _, c := range []struct{ before, after int }{{999999998, 999999999}, {999999999, 1000000000}, {1000000000, 1000000000}} {
		k := faultyKernel(t, impl.FaultLate)
		k.Parts[0].Late = c.before
		got := impl.TurnOf(k, nil)
		if got.Parts[0].Late != c.after || !impl.KernelOk(got) {
			t.Errorf("late %d times is %d then", c.before, got.Parts[0].Late)
		}
		k = pairKernel(t, "end", "end")
		k.Parts[0].Ends = c.before
		got = impl.RunTurns(k, 5, nil)
		if got.Turn != 5 || !impl.KernelOk(got) || got.Parts[0].Ends != min(c.before+3, 1000000000) {
			t.Errorf("%d ends are %d then", c.before, got.Parts[0].Ends)
		}
	}
}

func TestTurnsOfKernelsThatAreNotRight(t *testing.T) {
	for _, c := range allChanges() {
		k := busyKernel()
		c.make(&k)
		if !c.right {
			wantTurn(t, k, []int{4}, k)
			wantTurns(t, k, 3, nil, k)
		}
		wantTurn(t, k, []int{4}, tellTurn(k, []int{4}))
		wantTurns(t, k, 12, [][]int{{4}, {5, 6}}, tellTurns(k, 12, [][]int{{4}, {5, 6}}))
	}
	for _, s := range wrongSetups()[:40] {
		k := tellNew(s)
		wantTurn(t, k, nil, k)
		wantTurns(t, k, 9, nil, k)
	}
	wantTurn(t, impl.Kernel{}, nil, impl.Kernel{})
	wantTurns(t, impl.Kernel{}, 200, nil, impl.Kernel{})
}

func TestRunTurnsOfSoMany(t *testing.T) {
	k := pairKernel(t, "end", "end")
	for _, c := range []struct{ n, turns int }{
		{0, 0}, {-1, 0}, {-200, 0}, {math.MinInt, 0}, {1, 1}, {2, 2}, {3, 3}, {199, 199}, {200, 200}, {201, 200}, {202, 200}, {1000, 200}, {math.MaxInt, 200},
	} {
		want := copyOfKernel(k)
		want.Turn = c.turns
		want.Parts[0].Ends, want.Parts[1].Ends = (c.turns+1)/2, c.turns/2
		wantTurns(t, k, c.n, nil, want)
	}
}

// Each turn has the ins at its place; without one there are none, and 0 is read.
func TestRunTurnsHandsInsOn(t *testing.T) {
	const sums = "push 0;push 0;load;in 1;add;store;push 1;time;store;in 1;out;end"
	k := pairKernel(t, sums, sums)
	ins := [][]int{{1, 10}, {1, 200}, {}, nil, {1}, {1, 4000, 7}}
	for size := range len(ins) + 1 {
		for n := range 12 {
			want := copyOfKernel(k)
			for turn := range n {
				in, from := 0, 10*(turn%2)
				if turn < size && len(ins[turn]) > 1 {
					in = ins[turn][1]
				}
				want.Arena.Cells[from] += in
				want.Arena.Cells[from+1] = turn
				want.Outs[2*(turn%2)] = in
				want.Parts[turn%2].Ends++
				want.Turn++
			}
			wantTurns(t, k, n, ins[:size:size], want)
			// What stands in the spare room behind ins is handed to nobody.
			wantTurns(t, k, n, ins[:size], want)
		}
	}
	// More than there are turns.
	long := slices.Repeat([][]int{{0, 1}}, 300)
	if got := impl.RunTurns(k, 300, long); got.Arena.Cells[0] != 100 || got.Arena.Cells[10] != 100 || got.Turn != 200 {
		t.Errorf("of 300 ins it is %s", shownKernel(got))
	}
}

func TestSoManyTurnsAtOnceAreAsManyOneByOne(t *testing.T) {
	d := drawer(122)
	for range 300 {
		k := drawnKernel(&d)
		n := d.below(60)
		var ins [][]int
		for range d.below(n + 5) {
			ins = append(ins, drawnIns(&d))
		}
		want := k
		for i := range n {
			var one []int
			if i < len(ins) {
				one = ins[i]
			}
			want = impl.TurnOf(want, one)
		}
		wantTurns(t, k, n, ins, want)
		cut := d.below(n + 1)
		wantKernel(t, "turns in two pieces", impl.RunTurns(impl.RunTurns(k, cut, ins), n-cut, ins[min(cut, len(ins)):]), want)
	}
}

func TestTurnsInDrawnKernels(t *testing.T) {
	d := drawer(123)
	acts := map[[2]int]int{}
	for range 10000 {
		k := drawnKernel(&d)
		ins := drawnIns(&d)
		want := tellTurn(k, ins)
		wantTurn(t, k, ins, want)
		if n := len(want.Log); n > 0 && want.Log[n-1].Turn == k.Turn && !slices.Equal(want.Log, k.Log) {
			acts[[2]int{want.Log[n-1].Fault, want.Log[n-1].Act}]++
		}
	}
	for fault := impl.FaultTrap; fault <= impl.FaultLate; fault++ {
		for act := fault % 2; act <= impl.ActStop; act++ {
			if acts[[2]int{fault, act}] < 10 {
				t.Errorf("only %d drawn turns met the fault %d and the act %d", acts[[2]int{fault, act}], fault, act)
			}
		}
	}
}

// Lives from a new kernel on, which stay right.
func TestKernelsStayRightInDrawnLives(t *testing.T) {
	d := drawer(124)
	told := 0
	for range 200 {
		of := drawnKernel(&d)
		k := newKernel(t, of.Setup)
		for range 30 {
			ins := drawnIns(&d)
			wantTurn(t, k, ins, tellTurn(k, ins))
			k = impl.TurnOf(k, ins)
			wantKernelOk(t, "in a life", k, true)
			if slices.ContainsFunc(k.Lines, func(l impl.Line) bool { return len(l.Msgs) > 0 }) {
				told++
			}
		}
		k = impl.RunTurns(k, 200, nil)
		wantKernelOk(t, "behind many turns", k, true)
		if k.Turn != 230 {
			t.Fatalf("behind 230 turns it is %d", k.Turn)
		}
	}
	if told < 100 {
		t.Errorf("only behind %d turns there was something on a line", told)
	}
}
