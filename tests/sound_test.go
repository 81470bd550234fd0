package tests

import (
	"fmt"
	"math"
	"math/big"
	"slices"
	"sync"
	"testing"

	"loop.example/g00200/impl"
)

func tellSound(d impl.Device) bool {
	return tellDeviceOk(d) && tellWithin(d.Ticks) && tellStops(d.Ticks) && sumOfPulses(d.Ticks).Cmp(big.NewInt(int64(d.Pump.Given))) == 0
}

func tellApart(a impl.Kernel, b impl.Kernel, part int) bool {
	return sameView(tellView(a, part), tellView(b, part))
}

func wantSoundDevice(t *testing.T, what string, d impl.Device, want bool) {
	t.Helper()
	if got := impl.SoundDevice(d); got != want {
		t.Fatalf("%s: SoundDevice = %v of %s", what, got, shownDevice(d))
	}
}

// wantPartAlike asks both ways round.
func wantPartAlike(t *testing.T, what string, a impl.Kernel, b impl.Kernel, part int, want bool) {
	t.Helper()
	if one, other := impl.Apart(a, b, part), impl.Apart(b, a, part); one != want || other != want {
		t.Fatalf("%s: Apart of the part %d = %v, and %v the other way round, of\n%s, and\n%s", what, part, one, other, shownKernel(a), shownKernel(b))
	}
}

// countedDevice is right, and has given so much.
func countedDevice(given int, ticks ...impl.Tick) impl.Device {
	d := deviceOf(impl.Pump{State: 1, Rate: rateOf(3, 7, 5), Left: 9, Given: given})
	d.Ticks = ticks
	return d
}

func TestSoundDeviceOfTicks(t *testing.T) {
	wantSoundDevice(t, "a new device", impl.DeviceNew(), true)
	wantSoundDevice(t, "nothing", impl.Device{}, false)
	for _, c := range []struct {
		what  string
		given int
		ticks []impl.Tick
		want  bool
	}{
		{"no ticks", 0, nil, true},
		{"no ticks, and a pulse", 1, nil, false},
		{"one tick", 5, givingTicks(5), true},
		{"ticks", 6, []impl.Tick{{Pulses: 2, State: 1}, {Alarm: 4, State: 1}, {Alarm: 4, State: 1}, {Pulses: 2, State: 1}, {Pulses: 2, State: 1}}, true},
		{"a pulse too many", 7, givingTicks(2, 0, 4), false},
		{"a pulse too few", 5, givingTicks(2, 0, 4), false},
		{"a full span", 30, givingTicks(evenPast(10, 3)...), true},
		{"a span that is too full, alone", 31, givingTicks(append(evenPast(9, 3), 4)...), false},
		{"a tick that is too full, alone", 31, givingTicks(31), false},
		{"a full span, the next one too full, alone", 34, givingTicks(append(evenPast(10, 3), 4)...), false},
		{"pulses with an alarm, alone", 6, []impl.Tick{{Pulses: 2}, {Pulses: 2, Alarm: 8}, {Pulses: 2}}, false},
		{"an alarm", 4, []impl.Tick{{Pulses: 2}, {Alarm: 8}, {Pulses: 2}}, true},
		{"all of the ticks that there may be", 600, givingTicks(evenPast(200, 3)...), true},
		{"a tick more than there may be", 600, givingTicks(append(evenPast(200, 3), 0)...), false},
		// No sentence asks for ticks that a life would have.
		{"an alarm and a state that are none", 4, []impl.Tick{{Pulses: 4, State: 9}, {Alarm: -1, State: -5}}, true},
		{"pulses below 0", 4, givingTicks(5, -1), true},
		{"pulses below 0 with an alarm, alone", 4, []impl.Tick{{Pulses: 5}, {Pulses: -1, Alarm: 1}}, false},
		{"a total below 0", 1, givingTicks(-1), false},
		{"a total of 0", 0, givingTicks(30, -30), true},
		{"a sum that goes round to 0", 0, givingTicks(math.MinInt, math.MinInt), false},
		{"a sum that goes round to 7", 7, givingTicks(math.MinInt, math.MinInt, 7), false},
		{"a sum of 0, beyond Big on its way", 0, givingTicks(impl.Big, impl.Big, -impl.Big, -impl.Big), true},
		{"all that there may be, of a tick", impl.Big, givingTicks(impl.Big), false},
		{"a tick of 0 and all that there may be", impl.Big, givingTicks(0), false},
	} {
		d := countedDevice(c.given, c.ticks...)
		wantSoundDevice(t, c.what, d, c.want)
		if tellSound(d) != c.want {
			t.Errorf("%s: it is told in another way", c.what)
		}
	}
}

// Whatever it has given, and whatever its ticks tell: just one number is right.
func TestSoundDeviceOfGiven(t *testing.T) {
	for total := range 31 {
		for given := -2; given <= 33; given++ {
			ticks := givingTicks(total/2, total-total/2, 0)
			wantSoundDevice(t, "given", countedDevice(given, ticks...), given == total)
		}
		for _, given := range []int{math.MinInt, math.MaxInt, impl.Big, impl.Big + 1, total + 1<<32, total - 1<<32, total + math.MinInt} {
			wantSoundDevice(t, "given", countedDevice(given, givingTicks(total)...), false)
		}
	}
}

// ticksThatGive are no more than there may be: of what is too much for them, the rest is left out.
func ticksThatGive(given int) []impl.Tick {
	var out []impl.Tick
	for given > 0 && len(out) < 200 {
		out = append(out, impl.Tick{Pulses: min(given, 3)})
		given -= min(given, 3)
	}
	return out
}

func TestSoundDeviceOfDevicesThatAreNotRight(t *testing.T) {
	for _, d := range wrongDevices() {
		wantSoundDevice(t, "not right", d, false)
		// The same with ticks of which nothing else is to be said.
		if len(d.Ticks) <= 200 {
			d.Ticks = ticksThatGive(d.Pump.Given)
			wantSoundDevice(t, "not right, with the ticks that it should have", d, false)
		}
	}
	for _, d := range rightDevices() {
		wantSoundDevice(t, "right", d, tellSound(d))
		d.Ticks = ticksThatGive(d.Pump.Given)
		wantSoundDevice(t, "right, with the ticks that it should have", d, true)
	}
}

// lifeWithMuch has spans that are full, alarms that are held, and orders of each kind.
func lifeWithMuch() []impl.In {
	ins := lifeOf(149, impl.In{Keys: "b3\n1\n5000\n", Link: tellOrderText(bolusOf(100))})
	for at, in := range map[int]impl.In{20: feltIn(4), 21: feltIn(2), 25: typedIn("s"), 60: {Bits: 1, Keys: "s"}, 62: linkedIn(orderSeen), 80: typedIn("p"), 85: typedIn("g"), 90: typedIn("o9"), 91: typedIn("9\n"), 120: typedIn("x"), 121: typedIn("b2"), 122: typedIn("\n3\n9"), 123: typedIn("\n")} {
		ins[at] = in
	}
	return ins
}

func drawnLives(seed int, many int) [][]impl.In {
	d := drawer(seed)
	out := [][]impl.In{nil, lifeOf(1), lifeOf(150), lifeWithMuch(), slices.Repeat([]impl.In{{Keys: "xb3\n1\n5000\n", Link: tellOrderText(bolusOf(100))}}, 150)}
	for range many {
		ins := make([]impl.In, d.below(151))
		for i := range ins {
			ins[i] = drawnIn(&d)
		}
		out = append(out, ins)
	}
	return out
}

func wantTrueLife(t *testing.T, d impl.Device, ins []impl.In) {
	t.Helper()
	wantSoundDevice(t, "a life", d, true)
	wantWithin(t, d.Ticks, true)
	wantStops(t, d.Ticks, true)
	wantLatched(t, "a life", d.Ticks, ins, true)
	wantTotal(t, d.Ticks, d.Pump.Given)
}

func TestWhatIsTrueOfLives(t *testing.T) {
	for _, ins := range drawnLives(192, 400) {
		d := livedOf(t, ins)
		wantTrueLife(t, d, ins)
		for many := range len(d.Ticks) {
			wantWithin(t, d.Ticks[:many], true)
			wantLatched(t, "the beginning of a life", d.Ticks[:many], ins[:many], true)
		}
		wantLatched(t, "a life without its last input", d.Ticks, ins[:max(len(ins)-1, 0)], len(ins) == 0)
		wantLatched(t, "a life with an input more", d.Ticks, append(slices.Clone(ins), impl.In{}), false)
	}
}

// Tick by tick, up to the last tick that there may be.
func TestWhatIsTrueOfLongLives(t *testing.T) {
	d := drawer(193)
	for range 30 {
		one := impl.DeviceNew()
		var ins []impl.In
		for range 200 {
			ins = append(ins, drawnIn(&d))
			one = ticked(t, one, ins[len(ins)-1])
			wantTrueLife(t, one, ins)
		}
	}
}

// spoilt is a way to spoil one tick, which tells whether it could; times counts how often it did.
type spoilt struct {
	what  string
	times int
	way   func(d *impl.Device, ins []impl.In, at int) bool
	wrong func(d impl.Device, ins []impl.In) bool
}

func waysToSpoil() []*spoilt {
	isUnsound := func(d impl.Device, _ []impl.In) bool { return !impl.SoundDevice(d) }
	isTooMuch := func(d impl.Device, _ []impl.In) bool { return !impl.SoundDevice(d) && !impl.WithinLimits(d.Ticks) }
	isNotStopped := func(d impl.Device, _ []impl.In) bool { return !impl.SoundDevice(d) && !impl.StopsOnAlarm(d.Ticks) }
	isLost := func(d impl.Device, ins []impl.In) bool { return !impl.Latched(d.Ticks, ins) }
	return []*spoilt{
		{what: "a pulse more", wrong: isUnsound, way: func(d *impl.Device, _ []impl.In, at int) bool {
			d.Ticks[at].Pulses++
			return true
		}},
		{what: "a pulse less", wrong: isUnsound, way: func(d *impl.Device, _ []impl.In, at int) bool {
			d.Ticks[at].Pulses--
			return true
		}},
		{what: "more than a span lets through", wrong: isTooMuch, way: func(d *impl.Device, _ []impl.In, at int) bool {
			more := 31 - lastOf(pulsesOf(*d)[:at+1], 10)
			d.Ticks[at].Pulses += more
			d.Pump.Given += more
			return true
		}},
		{what: "a pulse with an alarm", wrong: isNotStopped, way: func(d *impl.Device, _ []impl.In, at int) bool {
			d.Ticks[at].Pulses++
			d.Pump.Given++
			return d.Ticks[at].Alarm != 0
		}},
		{what: "an alarm with pulses", wrong: isNotStopped, way: func(d *impl.Device, _ []impl.In, at int) bool {
			d.Ticks[at].Alarm = 8
			return d.Ticks[at].Pulses != 0
		}},
		{what: "what is felt is lost", wrong: isLost, way: func(d *impl.Device, ins []impl.In, at int) bool {
			d.Ticks[at].Alarm &^= ins[at].Bits & -ins[at].Bits
			return ins[at].Bits != 0
		}},
		{what: "an alarm is lost", wrong: isLost, way: func(d *impl.Device, ins []impl.In, at int) bool {
			d.Ticks[at].Alarm = ins[at].Bits
			return at > 0 && d.Ticks[at-1].Alarm&^ins[at].Bits != 0 && !isSeenAt(ins, at)
		}},
		{what: "an alarm that the next tick doesn't have", wrong: isLost, way: func(d *impl.Device, ins []impl.In, at int) bool {
			d.Ticks[at].Alarm = 15
			return at+1 < len(ins) && d.Ticks[at+1].Alarm != 15 && !isSeenAt(ins, at+1)
		}},
		{what: "what was seen isn't", wrong: isLost, way: func(d *impl.Device, ins []impl.In, at int) bool {
			seen := isSeenAt(ins, at)
			ins[at].Keys, ins[at].Link = "", ""
			return seen && at > 0 && d.Ticks[at-1].Alarm&^d.Ticks[at].Alarm != 0
		}},
		{what: "more is felt", wrong: isLost, way: func(d *impl.Device, ins []impl.In, at int) bool {
			ins[at].Bits = 15
			return d.Ticks[at].Alarm != 15
		}},
	}
}

// isSeenAt tells whether OrderSeen was told in that tick of a life.
func isSeenAt(ins []impl.In, at int) bool {
	menu := topMenu()
	var orders []impl.Order
	for _, in := range ins[:at+1] {
		menu, orders = tellPressAll(menu, in.Keys)
	}
	linked, _ := tellOrder(ins[at].Link)
	return linked == orderSeen || slices.Contains(orders, orderSeen)
}

func TestLivesWithOneTickSpoilt(t *testing.T) {
	ways := waysToSpoil()
	d := drawer(194)
	for _, ins := range drawnLives(195, 150) {
		one := livedOf(t, ins)
		for range min(len(ins), 12) {
			at := d.below(len(ins))
			for _, c := range ways {
				bad, badIns := copyOfDevice(one), slices.Clone(ins)
				if !c.way(&bad, badIns, at) {
					continue
				}
				c.times++
				if !c.wrong(bad, badIns) {
					t.Fatalf("%s, at the tick %d: nothing is found wrong of %s, told %s", c.what, at, shownDevice(bad), shownIns(badIns))
				}
				wantSoundDevice(t, c.what, bad, tellSound(bad))
				wantLatched(t, c.what, bad.Ticks, badIns, tellLatched(bad.Ticks, badIns))
				wantTicksAsTold(t, bad.Ticks)
			}
		}
	}
	for _, c := range ways {
		if c.times < 10 {
			t.Errorf("%s: only %d ticks were spoilt", c.what, c.times)
		}
	}
}

func TestSoundDevicesThatAreDrawn(t *testing.T) {
	d := drawer(196)
	sound := 0
	for range 40000 {
		one := drawnDevice(&d)
		if d.below(3) > 0 {
			one.Ticks = nil
			for range d.below(14) {
				one.Ticks = append(one.Ticks, impl.Tick{Pulses: d.below(6), Alarm: d.below(8) / 7 * d.below(3)})
			}
			one.Pump.Given = tellTotal(one.Ticks) + d.below(6)/5
		}
		want := tellSound(one)
		wantSoundDevice(t, "a drawn device", one, want)
		if want {
			sound++
		}
	}
	if sound < 2000 || sound > 30000 {
		t.Errorf("%d of the devices were sound", sound)
	}
}

func TestApartOfTheSameKernel(t *testing.T) {
	for _, k := range kernelsOfEverySort(t) {
		for _, part := range append([]int{1, 2, 3, 4, 5, 6}, noParts...) {
			wantPartAlike(t, "a kernel and itself", k, k, part, true)
			wantPartAlike(t, "a kernel and a copy of it", k, copyOfKernel(k), part, true)
		}
	}
}

// seenOf is a change of a kernel, and the parts of which it is seen.
type seenOf struct {
	what  string
	parts []int
	make  func(k *impl.Kernel)
}

func changesThatAreSeen() []seenOf {
	var out []seenOf
	for at := range 64 {
		out = append(out, seenOf{fmt.Sprint("the cell ", at), ownersOf(at), func(k *impl.Kernel) { k.Arena.Cells[at]++ }})
	}
	for at := range 8 {
		out = append(out, seenOf{fmt.Sprint("the register ", at), []int{at/2 + 1}, func(k *impl.Kernel) { k.Outs[at]++ }})
	}
	for part := 1; part <= 4; part++ {
		own := func(what string, make func(p *impl.Part)) {
			out = append(out, seenOf{what, []int{part}, func(k *impl.Kernel) { make(&k.Parts[part-1]) }})
		}
		own("the state", func(p *impl.Part) { p.State = 1 - p.State })
		own("Pc", func(p *impl.Part) { p.Cpu.Pc++ })
		own("starts", func(p *impl.Part) { p.Starts++ })
		own("ends", func(p *impl.Part) { p.Ends++ })
		own("late", func(p *impl.Part) { p.Late++ })
		own("no stack", func(p *impl.Part) { p.Cpu.Stack = nil })
		own("a number more on the stack", func(p *impl.Part) { p.Cpu.Stack = append(p.Cpu.Stack, 0) })
		own("a number less on the stack", func(p *impl.Part) { p.Cpu.Stack = p.Cpu.Stack[1:] })
		own("the first number on the stack", func(p *impl.Part) { p.Cpu.Stack[0]++ })
		own("the last number on the stack", func(p *impl.Part) { p.Cpu.Stack[len(p.Cpu.Stack)-1]-- })
		own("no part that it was", func(p *impl.Part) { *p = impl.Part{} })
		out = append(out, seenOf{"the cells of a region", []int{part}, func(k *impl.Kernel) { k.Setup.Regions[part-1] = impl.Region{From: 10, Size: 3} }})
		out = append(out, seenOf{"a region that is one shorter", []int{part}, func(k *impl.Kernel) { k.Setup.Regions[part-1].Size-- }})
	}
	return append(out, changesThatAreNotSeen()...)
}

// ownersOf are the parts of the busy kernel that have the cell.
func ownersOf(cell int) []int {
	var out []int
	for i, r := range fullSetup().Regions {
		if r.From <= cell && cell < r.From+r.Size {
			out = append(out, i+1)
		}
	}
	return out
}

// What PartView doesn't tell is no part's own.
func changesThatAreNotSeen() []seenOf {
	return []seenOf{
		{"nothing", nil, func(k *impl.Kernel) {}},
		{"codes", nil, func(k *impl.Kernel) { k.Setup.Codes = []string{"", "\x00\x00", "x", ""} }},
		{"the plan", nil, func(k *impl.Kernel) { k.Setup.Plan = nil }},
		{"ports and lines", nil, func(k *impl.Kernel) { k.Setup.Ports, k.Lines = nil, nil }},
		{"a message", nil, func(k *impl.Kernel) { k.Lines[0].Msgs[0].Num++ }},
		{"rules", nil, func(k *impl.Kernel) { k.Setup.Rules = nil }},
		{"the turn", nil, func(k *impl.Kernel) { k.Turn++ }},
		{"that it is stopped", nil, func(k *impl.Kernel) { k.Stopped = !k.Stopped }},
		{"the log", nil, func(k *impl.Kernel) { k.Log = nil }},
		{"more registers than there should be", nil, func(k *impl.Kernel) { k.Outs = append(k.Outs, 1, 2, 3) }},
		{"more cells than there should be", nil, func(k *impl.Kernel) { k.Arena.Cells = append(k.Arena.Cells, 1, 2, 3) }},
		{"all registers", []int{1, 2, 3, 4}, func(k *impl.Kernel) { clear(k.Outs) }},
		{"all parts", []int{1, 2, 3, 4}, func(k *impl.Kernel) { k.Parts = nil }},
		{"two parts changed for each other", []int{2, 3}, func(k *impl.Kernel) { k.Parts[1], k.Parts[2] = k.Parts[2], k.Parts[1] }},
	}
}

func TestApartOfEachChange(t *testing.T) {
	for _, c := range changesThatAreSeen() {
		k := busyKernel()
		c.make(&k)
		for part := 1; part <= 4; part++ {
			wantPartAlike(t, c.what, busyKernel(), k, part, !slices.Contains(c.parts, part))
		}
		for _, part := range append([]int{5, 6}, noParts...) {
			wantPartAlike(t, c.what, busyKernel(), k, part, true)
		}
	}
	for _, c := range allChanges() {
		k := busyKernel()
		c.make(&k)
		for part := range 7 {
			wantPartAlike(t, c.what, busyKernel(), k, part, tellApart(busyKernel(), k, part))
		}
	}
}

// An empty stack is the same as none.
func TestApartOfEmptyLists(t *testing.T) {
	one, other := busyKernel(), busyKernel()
	one.Parts[1].Cpu.Stack, other.Parts[1].Cpu.Stack = nil, []int{}
	wantPartAlike(t, "no stack", one, other, 2, true)
	one.Setup.Regions[1].Size, other.Setup.Regions[1] = 0, impl.Region{From: 90, Size: 7}
	wantPartAlike(t, "no cells", one, other, 2, true)
}

func TestApartOfKernelsOfUnlikeParts(t *testing.T) {
	for few := 1; few <= 4; few++ {
		for many := few; many <= 4; many++ {
			one, other := newKernel(t, setupOf(few, false, false)), newKernel(t, setupOf(many, false, false))
			for part := 1; part <= 6; part++ {
				want := tellApart(one, other, part)
				if part > few && part <= many && want {
					t.Fatal("a part that there is, is told to be as one that there isn't")
				}
				wantPartAlike(t, "kernels of unlike parts", one, other, part, want)
				wantPartAlike(t, "a kernel and nothing", one, impl.Kernel{}, part, part > few)
			}
			for _, part := range noParts {
				wantPartAlike(t, "kernels of unlike parts", one, other, part, true)
			}
		}
	}
	// Cells alone are unlike: the part is at its beginning, and its registers are 0.
	one, other := newKernel(t, twoParts()), newKernel(t, twoParts())
	other.Setup.Regions[1].Size++
	wantPartAlike(t, "a cell of 0 more", one, other, 2, false)
	wantPartAlike(t, "a cell of 0 more", one, other, 1, true)
}

func TestApartOfWhateverKernels(t *testing.T) {
	kernels := kernelsOfEverySort(t)
	for i, a := range kernels {
		for j, b := range kernels {
			if (i+j)%7 > 0 {
				continue
			}
			for part := -1; part <= 5; part++ {
				wantPartAlike(t, "two kernels", a, b, part, tellApart(a, b, part))
			}
		}
	}
	k := livelyKernel(t)
	start := copyOfKernel(k)
	for _, place := range placesOfNumbers(&k) {
		kept := *place
		for _, n := range []int{math.MaxInt, math.MinInt, -1, kept + 1, kept + 1<<32} {
			*place = n
			for part := range 4 {
				wantPartAlike(t, "one number changed", start, k, part, tellApart(start, k, part))
			}
		}
		*place = kept
	}
}

// Behind a turn the part whose turn it was is another one, as a rule, and each other one is as it was.
func TestApartBehindATurn(t *testing.T) {
	k := livelyKernel(t)
	next := impl.TurnOf(k, []int{7, 8})
	turn := tellWindow(k.Setup.Plan, k.Turn).Part
	wantPartAlike(t, "the part whose turn it was", k, next, turn, false)
	wantPartAlike(t, "the other part", k, next, 3-turn, true)
	last := impl.TurnOf(next, []int{7, 8})
	wantPartAlike(t, "the part whose turn it was", next, last, 3-turn, false)
	wantPartAlike(t, "the other part", next, last, turn, true)
	d := drawer(197)
	unlike := 0
	for range 5000 {
		k := drawnKernel(&d)
		turn := tellWindow(k.Setup.Plan, k.Turn).Part
		next := impl.TurnOf(k, drawnIns(&d))
		if next.Stopped && !k.Stopped {
			// When all is stopped, all registers are 0.
			next.Outs = k.Outs
		}
		for part := 1; part <= 5; part++ {
			if part != turn {
				wantPartAlike(t, "whose turn it was not", k, next, part, true)
			}
		}
		wantPartAlike(t, "whose turn it was", k, next, turn, tellApart(k, next, turn))
		if !impl.Apart(k, next, turn) {
			unlike++
		}
	}
	if unlike < 3000 {
		t.Errorf("only %d turns changed the part whose turn it was", unlike)
	}
}

// truthsOf is all that the chapter tells of a life.
type truthsOf struct {
	within, stops, latched, sound bool
	total                         int
}

func askTruths(d impl.Device, ins []impl.In) truthsOf {
	return truthsOf{impl.WithinLimits(d.Ticks), impl.StopsOnAlarm(d.Ticks), impl.Latched(d.Ticks, ins), impl.SoundDevice(d), impl.TotalOf(d.Ticks)}
}

func tellTruths(d impl.Device, ins []impl.In) truthsOf {
	return truthsOf{tellWithin(d.Ticks), tellStops(d.Ticks), tellLatched(d.Ticks, ins), tellSound(d), tellTotal(d.Ticks)}
}

// Whatever is asked leaves what was given, and the room around it, and answers the same again.
func TestTruthsLeaveWhatIsGiven(t *testing.T) {
	lives := drawnLives(198, 20)
	devices := someDevices()
	for _, ins := range lives {
		devices = append(devices, livedOf(t, ins))
	}
	for i, one := range devices {
		ins := lives[i%len(lives)]
		if i >= len(devices)-len(lives) {
			ins = lives[i-len(devices)+len(lives)]
		}
		want := tellTruths(one, ins)
		for _, spare := range []int{0, 1, 12} {
			given := copyOfDevice(one)
			past, pastMemory := fencedNumbers(one.Guard.Past, spare)
			ticks, tickMemory := fencedTicks(one.Ticks, spare)
			given.Guard.Past, given.Ticks = past, ticks
			inMemory := append(append(make([]impl.In, 2), ins...), slices.Repeat([]impl.In{feltIn(fence)}, spare)...)
			pastBefore, ticksBefore, insBefore := slices.Clone(pastMemory), slices.Clone(tickMemory), slices.Clone(inMemory)
			for range 3 {
				if got := askTruths(given, inMemory[2:2+len(ins)]); got != want {
					t.Fatalf("it is %+v, want %+v, of %s", got, want, shownDevice(one))
				}
			}
			if !slices.Equal(pastMemory, pastBefore) || !slices.Equal(tickMemory, ticksBefore) || !slices.Equal(inMemory, insBefore) || !sameDevice(given, one) {
				t.Fatalf("of %s, calls made %s", shownDevice(one), shownDevice(given))
			}
		}
	}
}

func TestApartLeavesWhatIsGiven(t *testing.T) {
	for _, k := range kernelsOfEverySort(t) {
		for _, spare := range []int{0, 1, 9} {
			one, other := fenceKernel(k, spare), fenceKernel(livelyKernel(t), spare)
			oneBefore, otherBefore := one.seen(), other.seen()
			for part := -1; part <= 6; part++ {
				want := tellApart(k, livelyKernel(t), part)
				for range 3 {
					wantPartAlike(t, "a kernel and another", one.given, other.given, part, want)
					wantPartAlike(t, "a kernel and itself", one.given, one.given, part, true)
				}
			}
			if !one.isAs(oneBefore) || !other.isAs(otherBefore) {
				t.Fatalf("Apart writes into what is given: %s", shownKernel(one.memory))
			}
		}
	}
}

// What was asked ahead, of others, leaves nothing behind.
func TestTruthsAreAnsweredAlike(t *testing.T) {
	lives := drawnLives(199, 30)
	var devices []impl.Device
	var first []truthsOf
	for i, ins := range lives {
		d := livedOf(t, ins)
		if i%3 == 1 && len(d.Ticks) > 0 {
			d.Ticks[len(d.Ticks)/2].Pulses += 31
		}
		devices = append(devices, d)
		first = append(first, askTruths(d, ins))
	}
	for range 3 {
		for i := len(lives) - 1; i >= 0; i-- {
			askTruths(devices[i], lives[(i+1)%len(lives)])
			if got := askTruths(devices[i], lives[i]); got != first[i] {
				t.Fatalf("it is %+v, and was %+v", got, first[i])
			}
		}
	}
}

func TestTruthsOfManyAtOnce(t *testing.T) {
	lives := drawnLives(200, 10)
	k := livelyKernel(t)
	next := impl.TurnOf(k, nil)
	turn := tellWindow(k.Setup.Plan, k.Turn).Part
	var devices []impl.Device
	for _, ins := range lives {
		devices = append(devices, livedOf(t, ins))
	}
	var all sync.WaitGroup
	for range 16 {
		all.Go(func() {
			for i, ins := range lives {
				if got, want := askTruths(devices[i], ins), tellTruths(devices[i], ins); got != want {
					t.Errorf("one of many is %+v, want %+v", got, want)
				}
				if impl.Apart(k, next, turn) || !impl.Apart(k, next, 3-turn) {
					t.Error("one of many is not apart")
				}
			}
		})
	}
	all.Wait()
}
