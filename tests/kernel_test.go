package tests

import (
	"fmt"
	"math"
	"slices"
	"testing"

	"loop.example/g00200/impl"
)

// noEntry stands around the entries of a log in its memory, where nothing may be written.
var noEntry = impl.Entry{Turn: fence, Part: fence, Fault: fence, Trap: fence, Act: fence}

func samePart(a impl.Part, b impl.Part) bool {
	return a.State == b.State && a.Cpu.Pc == b.Cpu.Pc && slices.Equal(a.Cpu.Stack, b.Cpu.Stack) && a.Starts == b.Starts && a.Ends == b.Ends && a.Late == b.Late
}

func sameLine(a impl.Line, b impl.Line) bool {
	return slices.Equal(a.Msgs, b.Msgs)
}

func sameKernel(a impl.Kernel, b impl.Kernel) bool {
	return sameSetup(a.Setup, b.Setup) && slices.Equal(a.Arena.Cells, b.Arena.Cells) &&
		slices.EqualFunc(a.Parts, b.Parts, samePart) && slices.EqualFunc(a.Lines, b.Lines, sameLine) &&
		slices.Equal(a.Outs, b.Outs) && a.Turn == b.Turn && a.Stopped == b.Stopped && slices.Equal(a.Log, b.Log)
}

func copyOfKernel(k impl.Kernel) impl.Kernel {
	k.Setup = copyOfSetup(k.Setup)
	k.Arena.Cells = slices.Clone(k.Arena.Cells)
	k.Parts = slices.Clone(k.Parts)
	for i := range k.Parts {
		k.Parts[i].Cpu.Stack = slices.Clone(k.Parts[i].Cpu.Stack)
	}
	k.Lines = slices.Clone(k.Lines)
	for i := range k.Lines {
		k.Lines[i].Msgs = slices.Clone(k.Lines[i].Msgs)
	}
	k.Outs = slices.Clone(k.Outs)
	k.Log = slices.Clone(k.Log)
	return k
}

// shownKernel is a kernel for a reader's eye, which may be of any size.
func shownKernel(k impl.Kernel) string {
	return fmt.Sprintf("a kernel of %s, cells %.400s, parts %.300s, lines %.200s, outs %.100s, turn %d, stopped %v, %d entries (%.200s)", shown(k.Setup),
		fmt.Sprint(k.Arena.Cells), fmt.Sprint(k.Parts), fmt.Sprint(k.Lines), fmt.Sprint(k.Outs), k.Turn, k.Stopped, len(k.Log), fmt.Sprint(k.Log))
}

// someLog has entries no two of which are alike.
func someLog(size int) []impl.Entry {
	var out []impl.Entry
	for i := range size {
		out = append(out, impl.Entry{Turn: 3 * i, Part: 1 + i%4, Fault: 2, Act: i})
	}
	return out
}

// busyKernel has four parts and six ports, and hardly anything that is 0.
func busyKernel() impl.Kernel {
	k := impl.Kernel{Setup: copyOfSetup(fullSetup()), Arena: impl.Arena{Cells: someCells(64)}, Outs: someStack(8), Turn: 77, Log: someLog(5)}
	for i := range 4 {
		k.Parts = append(k.Parts, impl.Part{State: i % 2, Cpu: impl.Cpu{Pc: i + 1, Stack: someStack(2*i + 1)}, Starts: i, Ends: 10 + i, Late: 20 + i})
	}
	for _, p := range k.Setup.Ports {
		k.Lines = append(k.Lines, impl.Line{Msgs: someMsgs(p.Most)})
	}
	return k
}

func newKernel(t *testing.T, s impl.Setup) impl.Kernel {
	t.Helper()
	k, fault := impl.KernelNew(s)
	if fault != 0 {
		t.Fatalf("KernelNew of %s has the fault %d", shown(s), fault)
	}
	return k
}

func tellNew(s impl.Setup) impl.Kernel {
	k := impl.Kernel{Setup: copyOfSetup(s), Arena: impl.Arena{Cells: make([]int, 64)}, Outs: make([]int, 8)}
	for range s.Regions {
		k.Parts = append(k.Parts, impl.Part{})
	}
	for range s.Ports {
		k.Lines = append(k.Lines, impl.Line{})
	}
	return k
}

func isCount(n int) bool {
	return n >= 0 && n <= 1000000000
}

func areWords(list []int, size int) bool {
	return len(list) == size && !slices.ContainsFunc(list, func(n int) bool { return n < 0 || n > 65535 })
}

func tellPartOk(p impl.Part) bool {
	return slices.Contains([]int{0, 1}, p.State) && isRightCpu(p.Cpu.Pc, p.Cpu.Stack) && isCount(p.Starts) && isCount(p.Ends) && isCount(p.Late)
}

func tellKernelOk(k impl.Kernel) bool {
	if tellSetupFault(k.Setup) != 0 || len(k.Parts) != len(k.Setup.Regions) || len(k.Lines) != len(k.Setup.Ports) {
		return false
	}
	for i, p := range k.Setup.Ports {
		if len(k.Lines[i].Msgs) > p.Most {
			return false
		}
	}
	isWrong := func(p impl.Part) bool { return !tellPartOk(p) }
	return areWords(k.Arena.Cells, 64) && areWords(k.Outs, 8) && isCount(k.Turn) && !slices.ContainsFunc(k.Parts, isWrong)
}

func wantKernelOk(t *testing.T, what string, k impl.Kernel, want bool) {
	t.Helper()
	if got := impl.KernelOk(k); got != want {
		t.Fatalf("%s: KernelOk = %v of %s", what, got, shownKernel(k))
	}
}

func wantKernel(t *testing.T, what string, got impl.Kernel, want impl.Kernel) {
	t.Helper()
	if !sameKernel(got, want) {
		t.Fatalf("%s:\n%s, want\n%s", what, shownKernel(got), shownKernel(want))
	}
}

func TestConstantsOfKernels(t *testing.T) {
	if impl.PartReady != 0 || impl.PartHalted != 1 {
		t.Errorf("the states are %d and %d", impl.PartReady, impl.PartHalted)
	}
}

func TestKernelNewOfRightSetups(t *testing.T) {
	for _, s := range rightSetups() {
		k := newKernel(t, s)
		wantKernel(t, "KernelNew", k, tellNew(s))
		wantKernelOk(t, "a new kernel", k, true)
	}
}

// Written out by hand: each field of a new kernel.
func TestKernelNewFieldByField(t *testing.T) {
	for _, c := range []struct {
		setup        impl.Setup
		parts, lines int
	}{{smallSetup(), 1, 0}, {setupOf(4, false, true), 4, 0}, {fullSetup(), 4, 6}, {twoParts(), 2, 3}} {
		k := newKernel(t, c.setup)
		if !sameSetup(k.Setup, c.setup) || k.Turn != 0 || k.Stopped || len(k.Log) != 0 {
			t.Errorf("KernelNew of %s = %s", shown(c.setup), shownKernel(k))
		}
		wantCells(t, "a new kernel", k.Arena.Cells, make([]int, 64))
		wantCells(t, "the registers of a new kernel", k.Outs, make([]int, 8))
		if len(k.Parts) != c.parts || len(k.Lines) != c.lines {
			t.Errorf("a new kernel has %d parts and %d lines", len(k.Parts), len(k.Lines))
		}
		for _, p := range k.Parts {
			if p.State != impl.PartReady || p.Cpu.Pc != 0 || len(p.Cpu.Stack) != 0 || p.Starts != 0 || p.Ends != 0 || p.Late != 0 {
				t.Errorf("a part of a new kernel is %v", p)
			}
		}
		for _, l := range k.Lines {
			if len(l.Msgs) != 0 {
				t.Errorf("a line of a new kernel is %v", l)
			}
		}
	}
}

func TestKernelNewOfEachFault(t *testing.T) {
	refuse := func(s impl.Setup, want int) {
		t.Helper()
		k, fault := impl.KernelNew(s)
		if fault != want || !sameKernel(k, impl.Kernel{}) {
			t.Fatalf("KernelNew of %s = %s, %d, want the fault %d", shown(s), shownKernel(k), fault, want)
		}
	}
	refuse(impl.Setup{}, impl.FaultRegions)
	for fault, all := range spoilers() {
		for _, one := range all {
			s := copyOfSetup(twoParts())
			one(&s)
			refuse(s, fault)
		}
	}
	for _, s := range wrongSetups() {
		refuse(s, tellSetupFault(s))
	}
}

// kernelChange is a change of one thing of the busy kernel, and whether it is right then.
type kernelChange struct {
	what  string
	right bool
	make  func(k *impl.Kernel)
}

func changesOfCells() []kernelChange {
	var out []kernelChange
	for _, size := range []int{0, 1, 63, 64, 65, 128} {
		out = append(out, kernelChange{fmt.Sprint("cells: ", size), size == 64, func(k *impl.Kernel) { k.Arena.Cells = someCells(size) }})
	}
	for _, size := range []int{0, 1, 7, 8, 9, 16} {
		out = append(out, kernelChange{fmt.Sprint("outs: ", size), size == 8, func(k *impl.Kernel) { k.Outs = someStack(size) }})
	}
	for _, n := range []int{0, 1, 65535, -1, 65536, 65537, math.MaxInt, math.MinInt} {
		right := n >= 0 && n <= 65535
		for _, at := range []int{0, 1, 19, 20, 39, 40, 62, 63} {
			out = append(out, kernelChange{fmt.Sprint("cell ", at, " is ", n), right, func(k *impl.Kernel) { k.Arena.Cells[at] = n }})
		}
		for at := range 8 {
			out = append(out, kernelChange{fmt.Sprint("register ", at, " is ", n), right, func(k *impl.Kernel) { k.Outs[at] = n }})
		}
	}
	return out
}

func changesOfParts() []kernelChange {
	out := []kernelChange{
		{"no part", false, func(k *impl.Kernel) { k.Parts = nil }},
		{"a part too few", false, func(k *impl.Kernel) { k.Parts = k.Parts[:3] }},
		{"a part too many", false, func(k *impl.Kernel) { k.Parts = append(k.Parts, impl.Part{}) }},
	}
	for at := range 4 {
		for _, state := range []int{0, 1, 2, 3, -1, math.MaxInt, math.MinInt} {
			out = append(out, kernelChange{fmt.Sprint("state ", state), state == 0 || state == 1, func(k *impl.Kernel) { k.Parts[at].State = state }})
		}
		for _, pc := range []int{0, 59, 60, 61, -1, math.MaxInt, math.MinInt} {
			out = append(out, kernelChange{fmt.Sprint("Pc ", pc), pc >= 0 && pc <= 60, func(k *impl.Kernel) { k.Parts[at].Cpu.Pc = pc }})
		}
		for size := range 9 {
			out = append(out, kernelChange{fmt.Sprint("a stack of ", size), true, func(k *impl.Kernel) { k.Parts[at].Cpu.Stack = someStack(size) }})
		}
		for _, stack := range wrongStacks() {
			out = append(out, kernelChange{"a wrong stack", false, func(k *impl.Kernel) { k.Parts[at].Cpu.Stack = stack }})
		}
		for _, n := range []int{0, 1, 3, 4, 999999999, 1000000000, 1000000001, -1, math.MaxInt, math.MinInt} {
			out = append(out, kernelChange{fmt.Sprint("starts ", n), isCount(n), func(k *impl.Kernel) { k.Parts[at].Starts = n }})
			out = append(out, kernelChange{fmt.Sprint("ends ", n), isCount(n), func(k *impl.Kernel) { k.Parts[at].Ends = n }})
			out = append(out, kernelChange{fmt.Sprint("late ", n), isCount(n), func(k *impl.Kernel) { k.Parts[at].Late = n }})
		}
	}
	return out
}

func changesOfLines() []kernelChange {
	out := []kernelChange{
		{"no line", false, func(k *impl.Kernel) { k.Lines = nil }},
		{"a line too few", false, func(k *impl.Kernel) { k.Lines = k.Lines[:5] }},
		{"a line too many", false, func(k *impl.Kernel) { k.Lines = append(k.Lines, impl.Line{}) }},
		{"two lines changed for each other", false, func(k *impl.Kernel) { k.Lines[0], k.Lines[1] = k.Lines[1], k.Lines[0] }},
	}
	for at, p := range fullSetup().Ports {
		for size := range 9 {
			out = append(out, kernelChange{fmt.Sprint("line ", at, " of ", size), size <= p.Most, func(k *impl.Kernel) { k.Lines[at].Msgs = someMsgs(size) }})
		}
		// What a message tells is not looked at.
		for _, n := range []int{-1, 65536, math.MaxInt, math.MinInt} {
			out = append(out, kernelChange{fmt.Sprint("a message of ", n), true, func(k *impl.Kernel) { k.Lines[at].Msgs[0] = impl.Msg{Num: n, Stamp: n} }})
		}
	}
	return out
}

func changesOfTheRest() []kernelChange {
	out := []kernelChange{
		{"nothing", true, func(k *impl.Kernel) {}},
		{"stopped", true, func(k *impl.Kernel) { k.Stopped = true }},
		{"a set-up of nothing", false, func(k *impl.Kernel) { k.Setup = impl.Setup{} }},
		{"another right set-up", false, func(k *impl.Kernel) { k.Setup = twoParts() }},
		{"a log of wrong numbers", true, func(k *impl.Kernel) { k.Log = slices.Repeat([]impl.Entry{noEntry}, 3) }},
	}
	for _, size := range []int{0, 39, 40, 41, 1000} {
		out = append(out, kernelChange{fmt.Sprint("a log of ", size), true, func(k *impl.Kernel) { k.Log = someLog(size) }})
	}
	for _, n := range []int{0, 1, 65536, 999999999, 1000000000, 1000000001, -1, math.MaxInt, math.MinInt} {
		out = append(out, kernelChange{fmt.Sprint("turn ", n), isCount(n), func(k *impl.Kernel) { k.Turn = n }})
	}
	return out
}

func allChanges() []kernelChange {
	return slices.Concat(changesOfCells(), changesOfParts(), changesOfLines(), changesOfTheRest())
}

func TestKernelOkOfEachThingAlone(t *testing.T) {
	for _, c := range allChanges() {
		k := busyKernel()
		c.make(&k)
		wantKernelOk(t, c.what, k, c.right)
		if tellKernelOk(k) != c.right {
			t.Fatalf("%s: it is told in another way", c.what)
		}
	}
}

func TestKernelOkOfSetupsThatAreNotRight(t *testing.T) {
	for _, all := range spoilers() {
		for _, one := range all {
			k := newKernel(t, twoParts())
			wantKernelOk(t, "a new kernel", k, true)
			one(&k.Setup)
			wantKernelOk(t, "a set-up that is spoilt", k, false)
		}
	}
	for _, s := range wrongSetups() {
		k := tellNew(s)
		wantKernelOk(t, "a kernel of a wrong set-up", k, false)
	}
	wantKernelOk(t, "nothing", impl.Kernel{}, false)
}

// placesOfNumbers answers where each number of a kernel stands.
func placesOfNumbers(k *impl.Kernel) []*int {
	out, _ := fieldsOf(&k.Setup)
	for i := range k.Arena.Cells {
		out = append(out, &k.Arena.Cells[i])
	}
	for i := range k.Parts {
		p := &k.Parts[i]
		out = append(out, &p.State, &p.Cpu.Pc, &p.Starts, &p.Ends, &p.Late)
		for j := range p.Cpu.Stack {
			out = append(out, &p.Cpu.Stack[j])
		}
	}
	for i := range k.Lines {
		for j := range k.Lines[i].Msgs {
			out = append(out, &k.Lines[i].Msgs[j].Num, &k.Lines[i].Msgs[j].Stamp)
		}
	}
	for i := range k.Outs {
		out = append(out, &k.Outs[i])
	}
	for i := range k.Log {
		e := &k.Log[i]
		out = append(out, &e.Turn, &e.Part, &e.Fault, &e.Trap, &e.Act)
	}
	return append(out, &k.Turn)
}

func TestKernelOkWithAnyNumberAnywhere(t *testing.T) {
	k := busyKernel()
	for _, place := range placesOfNumbers(&k) {
		kept := *place
		for _, n := range []int{math.MaxInt, math.MinInt, math.MaxInt - 1, -1, 0, 1, 2, 60, 61, 64, 65, 65535, 65536, 1000000000, 1000000001, 1<<32 + kept} {
			*place = n
			wantKernelOk(t, "one number changed", k, tellKernelOk(k))
		}
		*place = kept
	}
	wantKernelOk(t, "all numbers as they were", k, true)
}

// viewed is what PartView answers.
type viewed struct {
	part        impl.Part
	cells, outs []int
}

func viewOf(k impl.Kernel, part int) viewed {
	p, cells, outs := impl.PartView(k, part)
	return viewed{p, cells, outs}
}

func sameView(a viewed, b viewed) bool {
	return samePart(a.part, b.part) && slices.Equal(a.cells, b.cells) && slices.Equal(a.outs, b.outs)
}

func tellView(k impl.Kernel, part int) viewed {
	if part < 1 || part > len(k.Parts) || part > len(k.Setup.Regions) || part > len(k.Outs)/2 {
		return viewed{}
	}
	want := viewed{part: k.Parts[part-1], outs: []int{k.Outs[2*part-2], k.Outs[2*part-1]}}
	for _, place := range placesOf(len(k.Arena.Cells), k.Setup.Regions[part-1]) {
		want.cells = append(want.cells, k.Arena.Cells[place])
	}
	return want
}

func wantView(t *testing.T, k impl.Kernel, part int, want viewed) {
	t.Helper()
	if got := viewOf(k, part); !sameView(got, want) {
		t.Fatalf("PartView of the part %d = %v, want %v, of %s", part, got, want, shownKernel(k))
	}
}

var noParts = []int{0, -1, -2, -4, math.MinInt, math.MinInt + 1, 1 << 62, 1<<62 + 1, math.MaxInt, math.MaxInt - 1}

func TestPartViewOfEachPart(t *testing.T) {
	k := busyKernel()
	cells := someCells(64)
	for i, want := range []viewed{
		{impl.Part{State: 0, Cpu: impl.Cpu{Pc: 1, Stack: []int{5}}, Starts: 0, Ends: 10, Late: 20}, cells[63:64], []int{5, 8}},
		{impl.Part{State: 1, Cpu: impl.Cpu{Pc: 2, Stack: []int{5, 8, 11}}, Starts: 1, Ends: 11, Late: 21}, cells[0:20], []int{11, 14}},
		{impl.Part{State: 0, Cpu: impl.Cpu{Pc: 3, Stack: someStack(5)}, Starts: 2, Ends: 12, Late: 22}, cells[40:63], []int{17, 20}},
		{impl.Part{State: 1, Cpu: impl.Cpu{Pc: 4, Stack: someStack(7)}, Starts: 3, Ends: 13, Late: 23}, cells[20:40], []int{23, 26}},
	} {
		wantView(t, k, i+1, want)
	}
	for _, part := range append([]int{5, 6, 8, 9}, noParts...) {
		wantView(t, k, part, viewed{})
	}
	for regions := 1; regions <= 4; regions++ {
		k := newKernel(t, setupOf(regions, true, true))
		for part := -1; part <= 6; part++ {
			want := viewed{}
			if part >= 1 && part <= regions {
				want = viewed{cells: make([]int, k.Setup.Regions[part-1].Size), outs: []int{0, 0}}
			}
			wantView(t, k, part, want)
		}
	}
}

func TestPartViewOfKernelsThatLackSomething(t *testing.T) {
	for size := range 5 {
		for part := -1; part <= 6; part++ {
			k := busyKernel()
			k.Parts = k.Parts[:size]
			wantView(t, k, part, tellView(k, part))
			k = busyKernel()
			k.Setup.Regions = k.Setup.Regions[:size]
			wantView(t, k, part, tellView(k, part))
		}
	}
	// One register of two is not enough.
	for size := range 9 {
		k := busyKernel()
		k.Outs = k.Outs[:size]
		for part := 1; part <= 4; part++ {
			if got := viewOf(k, part); (len(got.outs) == 2) != (2*part <= size) || (len(got.cells) > 0) != (2*part <= size) {
				t.Fatalf("PartView of the part %d with %d registers = %v", part, size, got)
			}
			wantView(t, k, part, tellView(k, part))
		}
	}
	for part := -1; part <= 6; part++ {
		wantView(t, impl.Kernel{}, part, viewed{})
	}
}

// A kernel need not be right to be looked at: what there is of its cells is told, and a fifth part, where there is one.
func TestPartViewOfKernelsThatAreNotRight(t *testing.T) {
	for _, size := range someArenas() {
		for _, r := range someRegions() {
			k := impl.Kernel{Setup: impl.Setup{Regions: []impl.Region{{}, r}}, Arena: impl.Arena{Cells: someCells(size)}, Parts: make([]impl.Part, 2), Outs: []int{1, 2, 3, 4}}
			wantView(t, k, 2, tellView(k, 2))
		}
	}
	k := busyKernel()
	k.Parts = append(k.Parts, impl.Part{State: -9, Cpu: impl.Cpu{Pc: math.MinInt, Stack: someStack(30)}, Late: math.MaxInt})
	k.Setup.Regions = append(k.Setup.Regions, impl.Region{From: 60, Size: 2})
	k.Outs = append(k.Outs, -1, math.MaxInt)
	wantView(t, k, 5, viewed{k.Parts[4], someCells(64)[60:62], []int{-1, math.MaxInt}})
	wantView(t, k, 6, viewed{})
}
