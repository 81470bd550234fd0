package tests

import (
	"fmt"
	"math"
	"runtime"
	"slices"
	"sync"
	"testing"
	"unsafe"

	"loop.example/g00200/impl"
)

// wantOthersStay asks that nothing is changed but what the part has, and the lines of its ports.
func wantOthersStay(t *testing.T, before impl.Kernel, after impl.Kernel, part int) {
	t.Helper()
	own := placesOf(64, before.Setup.Regions[part-1])
	for place := range 64 {
		if !slices.Contains(own, place) && before.Arena.Cells[place] != after.Arena.Cells[place] {
			t.Fatalf("the part %d changes the cell %d of another one, of %s", part, place, shownKernel(before))
		}
	}
	for other := 1; other <= len(before.Parts); other++ {
		if other != part && !sameView(viewOf(before, other), viewOf(after, other)) {
			t.Fatalf("the part %d changes %v of the part %d into %v", part, viewOf(before, other), other, viewOf(after, other))
		}
	}
	for place := range 8 {
		if place/2 != part-1 && before.Outs[place] != after.Outs[place] {
			t.Fatalf("the part %d changes the register %d", part, place)
		}
	}
	for i, p := range before.Setup.Ports {
		wantLineStays(t, p, before.Lines[i].Msgs, after.Lines[i].Msgs, part)
	}
	if !sameSetup(before.Setup, after.Setup) {
		t.Fatalf("the part %d changes the set-up", part)
	}
}

// wantLineStays asks that a part takes from the beginning of a line to it, puts behind one from it, and leaves all others.
func wantLineStays(t *testing.T, p impl.Port, before []impl.Msg, after []impl.Msg, part int) {
	t.Helper()
	right := slices.Equal(before, after)
	switch {
	case p.From == part && p.Kind == impl.PortQueue:
		right = len(after) >= len(before) && slices.Equal(after[:len(before)], before)
	case p.From == part:
		right = right || len(after) == 1
	case p.To == part && p.Kind == impl.PortQueue:
		right = len(after) <= len(before) && slices.Equal(before[len(before)-len(after):], after)
	}
	if !right {
		t.Fatalf("the part %d changes the line of %v from %v to %v", part, p, before, after)
	}
}

func TestNoPartDisturbsAnother(t *testing.T) {
	d := drawer(125)
	stops, changes := 0, 0
	for range 10000 {
		k := drawnKernel(&d)
		ins := drawnIns(&d)
		part := 1 + d.below(len(k.Parts))
		after := runOf(k, part, d.below(100), ins).kernel
		wantOthersStay(t, k, after, part)
		if !slices.Equal(k.Arena.Cells, after.Arena.Cells) {
			changes++
		}
		next := impl.TurnOf(k, ins)
		if next.Stopped && !k.Stopped {
			// When all is stopped, all registers are 0; still no more than that is changed.
			stops++
			next.Outs = k.Outs
		}
		wantOthersStay(t, k, next, tellWindow(k.Setup.Plan, k.Turn).Part)
	}
	if stops < 50 || changes < 500 {
		t.Errorf("only %d drawn turns stopped all, and %d runs changed a cell", stops, changes)
	}
}

// Each instruction that writes something, by each part, at all offsets: neighbours on both sides stay.
func TestNoStoreReachesAnother(t *testing.T) {
	for part := 1; part <= 4; part++ {
		for offset := range 256 {
			for _, base := range []string{"push 0", "push 1", "push 255", "push 0;push 1;sub", "push 0;push 20;sub"} {
				k := busyKernel()
				k.Parts[part-1] = impl.Part{}
				k.Setup.Codes[part-1] = textOf(t, fmt.Sprintf("%s;push 7;store %d;push 9;out %d;end", base, offset, offset))
				wantOthersStay(t, k, runOf(k, part, 90, nil).kernel, part)
				wantRunAsTold(t, k, part, 90, nil)
			}
		}
	}
}

// aloneSetup is drawn, but no port goes to the part; nor does a queue go from it, whose CodeFull would tell it what the taker does.
func aloneSetup(d *drawer, part int) impl.Setup {
	s := drawnSetup(d)
	for len(s.Regions) < 2 || len(s.Regions) < part {
		s = drawnSetup(d)
	}
	s.Ports = slices.DeleteFunc(s.Ports, func(p impl.Port) bool {
		return p.To == part || p.From == part && p.Kind == impl.PortQueue
	})
	s.Rules = slices.DeleteFunc(s.Rules, func(r impl.Rule) bool {
		return r.Part != part && r.Act == impl.ActStop
	})
	for i := range s.Codes {
		s.Codes[i] = drawnProgramme(d, i+1, s.Ports)
	}
	return s
}

func TestAPartToWhichNoPortGoesIsTheSame(t *testing.T) {
	d := drawer(126)
	ends, unlike := 0, 0
	for range 400 {
		part := 1 + d.below(4)
		s := aloneSetup(&d, part)
		one := newKernel(t, s)
		for i := range s.Codes {
			if i != part-1 {
				s.Codes[i] = drawnProgramme(&d, i+1, s.Ports)
			}
			if i != part-1 && d.below(2) == 0 {
				s.Codes[i] = drawnCode(&d, d.below(61))
			}
		}
		two := newKernel(t, s)
		for range 25 {
			ins := drawnIns(&d)
			one, two = impl.TurnOf(one, ins), impl.TurnOf(two, ins)
			if !sameView(viewOf(one, part), viewOf(two, part)) {
				t.Fatalf("the part %d is %v, and %v beside others, of %s", part, viewOf(one, part), viewOf(two, part), shownKernel(one))
			}
		}
		ends += one.Parts[part-1].Ends
		if !slices.Equal(one.Arena.Cells, two.Arena.Cells) {
			unlike++
		}
	}
	if ends < 500 || unlike < 50 {
		t.Errorf("such parts came to their end %d times, and %d kernels were unlike", ends, unlike)
	}
}

// What comes over a port does change a part: else the test above would tell nothing.
func TestAPartToWhichAPortGoesIsNotTheSame(t *testing.T) {
	taker := "take 0;drop;out;end"
	one := impl.RunTurns(pairKernel(t, "push 5;send 0;end", taker), 2, nil)
	two := impl.RunTurns(pairKernel(t, "push 6;send 0;end", taker), 2, nil)
	if one.Outs[2] != 5 || two.Outs[2] != 6 {
		t.Errorf("over a port come %d and %d", one.Outs[2], two.Outs[2])
	}
	// A queue that is never taken from is full at last, and that is told to who sends.
	sender := "push 1;send 0;out;end"
	one = impl.RunTurns(pairKernel(t, sender, "end"), 9, nil)
	two = impl.RunTurns(pairKernel(t, sender, "take 0;end"), 9, nil)
	if one.Outs[0] != impl.CodeFull || two.Outs[0] != impl.CodeFine {
		t.Errorf("who sends over a queue is told %d and %d", one.Outs[0], two.Outs[0])
	}
}

// askAll holds every call that takes a kernel against what is told of it.
func askAll(t *testing.T, k impl.Kernel) {
	t.Helper()
	wantKernelOk(t, "whatever kernel", k, tellKernelOk(k))
	for _, part := range []int{math.MinInt, -1, 0, 1, 2, 3, 4, 5, math.MaxInt} {
		wantView(t, k, part, tellView(k, part))
		for _, budget := range []int{math.MinInt, 0, 5, math.MaxInt} {
			wantRunAsTold(t, k, part, budget, []int{math.MaxInt, math.MinInt})
		}
	}
	ins := [][]int{nil, {}, {math.MinInt, math.MaxInt}}
	wantTurn(t, k, nil, tellTurn(k, nil))
	wantTurn(t, k, ins[2], tellTurn(k, ins[2]))
	for _, n := range []int{math.MinInt, 0, 1, 5} {
		wantTurns(t, k, n, ins, tellTurns(k, n, ins))
	}
}

// livelyKernel is small, so that it can be asked often, and each part does something.
func livelyKernel(t *testing.T) impl.Kernel {
	k := pairKernel(t, "push 1;push 2;store 1;in 1;out;push 3;send 0;take 1;end", "take 0;drop;push 0;load 2;send 1;time;out 3;end")
	k.Setup.Rules = []impl.Rule{{Part: 1, Fault: 1, Act: 2}, {Part: 2, Fault: 2, Act: 1}}
	k.Arena.Cells = someCells(64)
	k.Lines[0].Msgs, k.Lines[1].Msgs, k.Lines[3].Msgs = someMsgs(1), someMsgs(2), someMsgs(1)
	k.Parts[1].Cpu = impl.Cpu{Pc: 5, Stack: []int{4, 5}}
	k.Outs = someStack(8)
	k.Turn = 6
	k.Log = someLog(2)
	return k
}

func TestCallsOfWhateverNumbers(t *testing.T) {
	k := livelyKernel(t)
	askAll(t, k)
	places := placesOfNumbers(&k)
	for _, n := range []int{math.MaxInt, math.MinInt, -1, 2, 65536, 1000000000, 1000000001} {
		for _, place := range places {
			kept := *place
			*place = n
			askAll(t, k)
			*place = kept
		}
	}
	for _, n := range []int{math.MaxInt, math.MinInt, 0, 1, -1} {
		all := copyOfKernel(k)
		for _, place := range placesOfNumbers(&all) {
			*place = n
		}
		askAll(t, all)
		// The same with a set-up that is right.
		all.Setup = k.Setup
		askAll(t, all)
	}
}

func TestCallsOfListsThatAreEmpty(t *testing.T) {
	empties := []func(k *impl.Kernel){
		func(k *impl.Kernel) { k.Setup.Regions = nil }, func(k *impl.Kernel) { k.Setup.Plan = nil }, func(k *impl.Kernel) { k.Setup.Ports = nil },
		func(k *impl.Kernel) { k.Setup.Rules = nil }, func(k *impl.Kernel) { k.Setup.Codes = nil }, func(k *impl.Kernel) { k.Arena.Cells = nil },
		func(k *impl.Kernel) { k.Parts = nil }, func(k *impl.Kernel) { k.Lines = nil }, func(k *impl.Kernel) { k.Outs = nil }, func(k *impl.Kernel) { k.Log = nil },
	}
	for some := range 1 << len(empties) {
		k := livelyKernel(t)
		for i, empty := range empties {
			if some>>i&1 == 1 {
				empty(&k)
			}
		}
		askAll(t, k)
	}
	k := livelyKernel(t)
	for i := range k.Parts {
		k.Parts[i].Cpu.Stack = nil
	}
	for i := range k.Lines {
		k.Lines[i].Msgs = nil
	}
	k.Setup.Codes = []string{"", ""}
	askAll(t, k)
}

// fencedKernel is a kernel whose lists have room ahead of them and behind them; memory is all of that room.
type fencedKernel struct {
	given  impl.Kernel
	memory impl.Kernel
	stacks [][]int
	msgs   [][]impl.Msg
}

func fenceKernel(k impl.Kernel, spare int) fencedKernel {
	var f fencedKernel
	f.given = k
	f.given.Setup, f.memory.Setup = fencedSetup(k.Setup, spare)
	f.given.Arena.Cells, f.memory.Arena.Cells = fencedNumbers(k.Arena.Cells, spare)
	f.given.Outs, f.memory.Outs = fencedNumbers(k.Outs, spare)
	f.memory.Parts = slices.Repeat([]impl.Part{{State: fence}}, 2+len(k.Parts)+spare)
	f.given.Parts = f.memory.Parts[2 : 2+copy(f.memory.Parts[2:], k.Parts)]
	for i, p := range k.Parts {
		stack, memory := fencedNumbers(p.Cpu.Stack, spare)
		f.given.Parts[i].Cpu.Stack = stack
		f.stacks = append(f.stacks, memory)
	}
	f.memory.Lines = slices.Repeat([]impl.Line{{Msgs: []impl.Msg{noMsg}}}, 2+len(k.Lines)+spare)
	f.given.Lines = f.memory.Lines[2 : 2+copy(f.memory.Lines[2:], k.Lines)]
	for i, l := range k.Lines {
		line, memory := fencedLine(l.Msgs, spare)
		f.given.Lines[i] = line
		f.msgs = append(f.msgs, memory)
	}
	f.memory.Log = slices.Repeat([]impl.Entry{noEntry}, 2+len(k.Log)+spare)
	f.given.Log = f.memory.Log[2 : 2+copy(f.memory.Log[2:], k.Log)]
	return f
}

// seen is a copy of all the memory.
func (f fencedKernel) seen() fencedKernel {
	out := fencedKernel{memory: copyOfKernel(f.memory)}
	for _, stack := range f.stacks {
		out.stacks = append(out.stacks, slices.Clone(stack))
	}
	for _, msgs := range f.msgs {
		out.msgs = append(out.msgs, slices.Clone(msgs))
	}
	return out
}

func (f fencedKernel) isAs(before fencedKernel) bool {
	return sameKernel(f.memory, before.memory) && slices.EqualFunc(f.stacks, before.stacks, slices.Equal) && slices.EqualFunc(f.msgs, before.msgs, slices.Equal)
}

// spoilKernel writes into all lists of an answer, and into the room behind them.
func spoilKernel(k impl.Kernel) {
	spoilSetup(k.Setup)
	fill(k.Arena.Cells[:cap(k.Arena.Cells)], fence)
	fill(k.Outs[:cap(k.Outs)], fence)
	for _, p := range k.Parts {
		fill(p.Cpu.Stack[:cap(p.Cpu.Stack)], fence)
	}
	for _, l := range k.Lines {
		for i := range l.Msgs[:cap(l.Msgs)] {
			l.Msgs[:cap(l.Msgs)][i] = noMsg
		}
	}
	for i := range k.Parts[:cap(k.Parts)] {
		k.Parts[:cap(k.Parts)][i] = impl.Part{State: fence}
	}
	for i := range k.Lines[:cap(k.Lines)] {
		k.Lines[:cap(k.Lines)][i] = impl.Line{Msgs: []impl.Msg{noMsg}}
	}
	for i := range k.Log[:cap(k.Log)] {
		k.Log[:cap(k.Log)][i] = noEntry
	}
}

// extent is a piece of memory, from its first byte to the one behind its last.
type extent struct{ from, to uintptr }

func extentOf[T any](list []T) extent {
	from := uintptr(unsafe.Pointer(unsafe.SliceData(list)))
	return extent{from, from + uintptr(cap(list))*unsafe.Sizeof(*new(T))}
}

// extentsOf tells the memory of all lists of a kernel, with the room behind them, and of all its texts.
func extentsOf(k impl.Kernel) []extent {
	s := k.Setup
	all := []extent{
		extentOf(s.Regions), extentOf(s.Plan), extentOf(s.Ports), extentOf(s.Rules), extentOf(s.Codes),
		extentOf(k.Arena.Cells), extentOf(k.Parts), extentOf(k.Lines), extentOf(k.Outs), extentOf(k.Log),
	}
	for _, code := range s.Codes {
		all = append(all, extentOf(unsafe.Slice(unsafe.StringData(code), len(code))))
	}
	for _, p := range k.Parts {
		all = append(all, extentOf(p.Cpu.Stack))
	}
	for _, l := range k.Lines {
		all = append(all, extentOf(l.Msgs))
	}
	return slices.DeleteFunc(all, func(e extent) bool { return e.from == e.to })
}

func meet(a extent, b extent) bool {
	return a.from < b.to && b.from < a.to
}

// wantOwnMemory asks that no two lists of an answer share memory, and that none shares any with what was given.
func wantOwnMemory(t *testing.T, what string, given []extent, answer []extent) {
	t.Helper()
	for i, one := range answer {
		for _, other := range slices.Concat(answer[:i], given) {
			if meet(one, other) {
				t.Fatalf("%s: lists share memory", what)
			}
		}
	}
}

// kernelCall is a call that takes a kernel and answers one.
type kernelCall struct {
	what string
	call func(k impl.Kernel) impl.Kernel
}

func kernelCalls(ins [][]int) []kernelCall {
	out := []kernelCall{
		{"KernelNew", func(k impl.Kernel) impl.Kernel { n, _ := impl.KernelNew(k.Setup); return n }},
		{"TurnOf", func(k impl.Kernel) impl.Kernel { return impl.TurnOf(k, ins[0]) }},
	}
	for _, n := range []int{-1, 0, 1, 2, 13, 60} {
		out = append(out, kernelCall{fmt.Sprint("RunTurns of ", n), func(k impl.Kernel) impl.Kernel { return impl.RunTurns(k, n, ins) }})
	}
	for part := range 6 {
		out = append(out, kernelCall{fmt.Sprint("RunPart of ", part), func(k impl.Kernel) impl.Kernel { return runOf(k, part, 7*part, ins[1]).kernel }})
	}
	return out
}

func kernelsOfEverySort(t *testing.T) []impl.Kernel {
	d := drawer(127)
	out := []impl.Kernel{{}, livelyKernel(t), busyKernel(), faultyKernel(t, impl.FaultTrap), faultyKernel(t, impl.FaultLate)}
	for act := impl.ActWarm; act <= impl.ActStop; act++ {
		k := faultyKernel(t, impl.FaultTrap)
		k.Setup.Rules = []impl.Rule{{Part: 1, Fault: impl.FaultTrap, Act: act}}
		k.Log = someLog(38 + act)
		out = append(out, k)
	}
	for range 60 {
		out = append(out, drawnKernel(&d))
	}
	for i, c := range allChanges() {
		if i%9 == 0 || !c.right && i%4 == 0 {
			k := busyKernel()
			c.make(&k)
			out = append(out, k)
		}
	}
	return out
}

func TestKernelsThatAreGivenStay(t *testing.T) {
	for _, k := range kernelsOfEverySort(t) {
		for _, spare := range []int{0, 1, 9} {
			first, firstMemory := fencedNumbers([]int{9, 70000}, spare)
			second, secondMemory := fencedNumbers([]int{8}, spare)
			firstBefore, secondBefore := slices.Clone(firstMemory), slices.Clone(secondMemory)
			ins := [][]int{first, second}
			for _, c := range kernelCalls(ins) {
				f := fenceKernel(k, spare)
				before := f.seen()
				want := c.call(copyOfKernel(k))
				got := c.call(f.given)
				wantKernel(t, c.what+" of lists with room", got, want)
				if impl.KernelOk(f.given) != tellKernelOk(k) || !f.isAs(before) {
					t.Fatalf("%s writes into what is given: %s", c.what, shownKernel(f.memory))
				}
				wantOwnMemory(t, c.what, extentsOf(f.given), extentsOf(got))
				spoilKernel(got)
				if !f.isAs(before) || !slices.Equal(firstMemory, firstBefore) || !slices.Equal(secondMemory, secondBefore) {
					t.Fatalf("%s answers memory that was given", c.what)
				}
				runtime.KeepAlive(got)
			}
		}
	}
}

func TestViewsShareNoMemory(t *testing.T) {
	for _, k := range kernelsOfEverySort(t) {
		for part := range 6 {
			f := fenceKernel(k, 3)
			before := f.seen()
			got, again := viewOf(f.given, part), viewOf(f.given, part)
			var own []extent
			for _, list := range [][]int{got.part.Cpu.Stack, got.cells, got.outs} {
				if cap(list) > 0 {
					own = append(own, extentOf(list))
				}
			}
			wantOwnMemory(t, "PartView", extentsOf(f.given), own)
			for _, list := range [][]int{got.part.Cpu.Stack, got.cells, got.outs} {
				fill(list[:cap(list)], fence)
			}
			if !f.isAs(before) || !sameView(again, tellView(k, part)) {
				t.Fatalf("PartView of the part %d answers memory that was given", part)
			}
		}
	}
}

// Texts are written over, as nobody should, so that an answer that shares them is seen.
func TestKernelsShareNoTexts(t *testing.T) {
	ins := [][]int{{1}, {2}}
	for _, of := range kernelsOfEverySort(t) {
		for _, c := range kernelCalls(ins) {
			want := c.call(copyOfKernel(of))
			k := copyOfKernel(of)
			var codes [][]byte
			for i, code := range of.Setup.Codes {
				codes = append(codes, []byte(code))
				k.Setup.Codes[i] = unsafe.String(unsafe.SliceData(codes[i]), len(code))
			}
			got := c.call(k)
			for _, code := range codes {
				clear(code)
			}
			wantKernel(t, c.what+" with texts written over", got, want)
		}
	}
}

// What was asked ahead, right or wrong, leaves nothing behind.
func TestKernelsAreAnsweredAlike(t *testing.T) {
	kernels := kernelsOfEverySort(t)
	calls := kernelCalls([][]int{{1, 2}, {3}})
	var first []impl.Kernel
	for _, k := range kernels {
		for _, c := range calls {
			first = append(first, c.call(k))
		}
	}
	for range 3 {
		for i := len(first) - 1; i >= 0; i-- {
			c := calls[i%len(calls)]
			wantKernel(t, c.what+" once more", c.call(kernels[i/len(calls)]), first[i])
		}
	}
}

// Who asks at the same time as others, of the same kernel, is answered as if alone.
func TestKernelsOfManyAtOnce(t *testing.T) {
	k := livelyKernel(t)
	ins := [][]int{{5, 6}, {7, 8}}
	turns, turn, run := tellTurns(k, 40, ins), tellTurn(k, ins[0]), tellRunPart(k, 1, 30, ins[1])
	var all sync.WaitGroup
	for range 16 {
		all.Go(func() {
			for range 50 {
				if !sameKernel(impl.RunTurns(k, 40, ins), turns) || !sameKernel(impl.TurnOf(k, ins[0]), turn) || !sameKernel(runOf(k, 1, 30, ins[1]).kernel, run.kernel) {
					t.Errorf("a kernel is answered in another way")
					return
				}
			}
		})
	}
	all.Wait()
}
