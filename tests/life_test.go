package tests

import (
	"math"
	"slices"
	"strings"
	"sync"
	"testing"

	"loop.example/g00200/impl"
)

func tellLife(ins []impl.In) (impl.Device, bool) {
	if len(ins) > 150 || slices.ContainsFunc(ins, func(in impl.In) bool { return !tellInOk(in) }) {
		return impl.Device{}, false
	}
	d := newDevice()
	for _, in := range ins {
		d = tellTick(d, in)
	}
	return d, true
}

func wantLife(t *testing.T, ins []impl.In, want impl.Device, wantOk bool) {
	t.Helper()
	if got, ok := impl.RunDevice(ins); !sameDevice(got, want) || ok != wantOk {
		t.Fatalf("RunDevice of %d inputs = %s, %v, want %s, %v", len(ins), shownDevice(got), ok, shownDevice(want), wantOk)
	}
}

func wantNoLife(t *testing.T, ins []impl.In) {
	t.Helper()
	wantLife(t, ins, impl.Device{}, false)
}

// lifeOf is told by one input a tick, many ticks of nothing behind them.
func lifeOf(many int, ins ...impl.In) []impl.In {
	return append(slices.Clone(ins), make([]impl.In, many)...)
}

func livedOf(t *testing.T, ins []impl.In) impl.Device {
	t.Helper()
	d, ok := impl.RunDevice(ins)
	if !ok || !impl.DeviceOk(d) || len(d.Ticks) != len(ins) {
		t.Fatalf("RunDevice of %d inputs = %s, %v", len(ins), shownDevice(d), ok)
	}
	return d
}

func pulsesOf(d impl.Device) []int {
	var out []int
	for _, tick := range d.Ticks {
		out = append(out, tick.Pulses)
	}
	return out
}

func wantPulses(t *testing.T, what string, ins []impl.In, want ...int) impl.Device {
	t.Helper()
	d := livedOf(t, ins)
	if got := pulsesOf(d); !slices.Equal(got, want) {
		t.Errorf("%s: the pulses are %v, want %v", what, got, want)
	}
	return d
}

// wantSound asks for what holds of each life: no span has more than SpanMost, no alarm lets a pulse through, and all of it was given.
func wantSound(t *testing.T, d impl.Device) {
	t.Helper()
	given := 0
	pulses := pulsesOf(d)
	for i, tick := range d.Ticks {
		given += tick.Pulses
		if tick.Pulses < 0 || tick.Alarm != 0 && tick.Pulses != 0 || lastOf(pulses[:i+1], 10) > 30 {
			t.Fatalf("the tick %d is %+v, of the pulses %v", i, tick, pulses)
		}
	}
	if d.Pump.Given != given {
		t.Fatalf("%d pulses make %s", given, shownDevice(d))
	}
}

func TestLivesToldByHand(t *testing.T) {
	nothing := impl.In{}
	d := wantPulses(t, "an alarm that is seen", []impl.In{typedIn("b2\n1\n9\n"), feltIn(4), nothing, typedIn("s"), {Link: "x"}}, 2, 0, 0, 2, 2)
	if d.Pump != (impl.Pump{State: 1, Rate: rateOf(2, 1, 0), Left: 3, Given: 6}) || d.Refused != 1 || d.Guard.Alarm != 0 {
		t.Errorf("it ends as %s", shownDevice(d))
	}
	if !slices.Equal(d.Guard.Past, []int{2, 2, 0, 0, 2}) || !slices.Equal(d.Ticks, []impl.Tick{{Pulses: 2, State: 1}, {Alarm: 4, State: 1}, {Alarm: 4, State: 1}, {Pulses: 2, State: 1}, {Pulses: 2, State: 1}}) {
		t.Errorf("it ends as %s", shownDevice(d))
	}
	wantPulses(t, "nothing", lifeOf(5), 0, 0, 0, 0, 0)
	wantPulses(t, "a rate", lifeOf(7, typedIn("b3\n2\n8\n")), 1, 2, 1, 2, 1, 1, 0, 0)
	wantPulses(t, "a bolus beside a rate", lifeOf(6, typedIn("b1\n1\n5\no7\n")), 4, 4, 2, 1, 1, 0, 0)
	wantPulses(t, "a bolus that comes later, by the link", lifeOf(4, typedIn("b1\n1\n5\n"), nothing, linkedIn(bolusOf(4))), 1, 1, 4, 2, 1, 0, 0)
	wantPulses(t, "a bolus of an idle pump", lifeOf(3, typedIn("o7\n")), 0, 0, 0, 0)
	wantPulses(t, "a pause and a go", lifeOf(3, typedIn("b2\n1\n7\n"), typedIn("p"), nothing, nothing, linkedIn(orderGo)), 2, 0, 0, 0, 2, 2, 1, 0)
	wantPulses(t, "a stop", lifeOf(3, typedIn("b2\n1\n70\no9\n"), typedIn("x")), 5, 0, 0, 0, 0)
	wantPulses(t, "a stop and a new order", []impl.In{typedIn("b2\n1\n70\no9\n"), {Keys: "x", Link: tellOrderText(basalOf(1, 1, 2))}, nothing, nothing}, 5, 1, 1, 0)
	wantPulses(t, "an alarm ahead of all", lifeOf(3, feltIn(15), typedIn("b2\n1\n3\n"), nothing, typedIn("s")), 0, 0, 0, 2, 1, 0, 0)
	wantPulses(t, "seen, but felt again", lifeOf(1, typedIn("b2\n1\n9\n"), feltIn(1), impl.In{Bits: 1, Keys: "s"}, impl.In{Bits: 2, Keys: "s"}, typedIn("s")), 2, 0, 0, 0, 2, 2)
}

// The rate isn't stepped while there is an alarm: two thirds of a pulse stay two thirds.
func TestALifeGoesOnWhereItWas(t *testing.T) {
	start := typedIn("b2\n3\n100\n")
	plain := pulsesOf(livedOf(t, lifeOf(60, start)))
	for at := 1; at < 30; at++ {
		for _, held := range []int{0, 1, 2, 3, 4, 40} {
			ins := slices.Concat([]impl.In{start}, make([]impl.In, at-1), []impl.In{feltIn(8)}, make([]impl.In, held), []impl.In{typedIn("s")}, make([]impl.In, 20))
			want := slices.Concat(plain[:at], evenPast(held+1, 0), plain[at:at+21])
			wantPulses(t, "an alarm", ins, want...)
			ins[at], ins[at+1+held] = typedIn("p"), typedIn("g")
			wantPulses(t, "a pause", ins, want...)
		}
	}
}

// Three of the rate and three of a bolus in each tick fill a span in five of its ten.
func TestASpanThatIsFullHoldsBack(t *testing.T) {
	ins := lifeOf(149, impl.In{Keys: "b3\n1\n5000\n", Link: tellOrderText(bolusOf(100))})
	d := livedOf(t, ins)
	bolus, left := 100, 5000
	for i, n := range pulsesOf(d) {
		want := 3
		if bolus > 0 {
			want = []int{6, 6, 6, 6, 6, 0, 0, 0, 0, 0}[i%10]
		}
		if i < 60 && n != want {
			t.Fatalf("the pulses are %v", pulsesOf(d))
		}
		part := min(n, 3, bolus)
		bolus, left = bolus-part, left-(n-part)
	}
	if d.Pump.Bolus != bolus || d.Pump.Left != left || bolus != 0 || d.Pump.State != 1 {
		t.Errorf("it ends as %s, of a bolus %d are left, of the volume %d", shownDevice(d), bolus, left)
	}
	wantSound(t, d)
	// Tick by tick: of what is wanted, what the nine ticks ahead leave is given.
	for i, n := range pulsesOf(d) {
		before := livedOf(t, ins[:i+1])
		room := 30 - lastOf(pulsesOf(before)[:i], 9)
		if n > room || n < min(room, 3) {
			t.Errorf("the tick %d gave %d of the room %d", i, n, room)
		}
	}
}

func TestALifeGivesAllAndThenKeepsOpen(t *testing.T) {
	for _, o := range []impl.Order{basalOf(1, 1, 40), basalOf(3, 1, 60), basalOf(3, 2, 41), basalOf(2, 3, 30), basalOf(1, 2, 20), basalOf(7, 5, 1), basalOf(1000, 334, 99)} {
		d := livedOf(t, lifeOf(149, linkedIn(o)))
		_, through := givenInAll(rateOf(o.Num, o.Den, 0), 149)
		if through < o.Volume {
			t.Fatalf("%+v isn't given in so many ticks", o)
		}
		ends := slices.IndexFunc(d.Ticks, func(tick impl.Tick) bool { return tick.State == impl.PumpKeep })
		if sum := lastOf(pulsesOf(d)[:ends+1], 150); sum != o.Volume {
			t.Errorf("of %+v, %d are given", o, sum)
		}
		for i, tick := range d.Ticks[ends+1:] {
			want := 0
			if i%50 == 49 {
				want = 1
			}
			if tick != (impl.Tick{Pulses: want, State: 2}) {
				t.Errorf("%d ticks behind %+v there is %+v", i+1, o, tick)
			}
		}
		wantSound(t, d)
	}
}

func TestLivesOfEveryLength(t *testing.T) {
	wantLife(t, nil, newDevice(), true)
	wantLife(t, []impl.In{}, newDevice(), true)
	ins := lifeOf(400, typedIn("b1\n2\n90\n"))
	for many := range 310 {
		want, ok := tellLife(ins[:many])
		if ok != (many <= 150) {
			t.Fatal("it is told in another way")
		}
		wantLife(t, ins[:many], want, ok)
	}
}

func TestLivesThatRefuseMuch(t *testing.T) {
	d := livedOf(t, slices.Repeat([]impl.In{{Keys: strings.Repeat("g", 20), Link: "?"}}, 150))
	if d.Refused != 150*21 || d.Pump != newDevice().Pump {
		t.Errorf("it ends as %s", shownDevice(d))
	}
}

func TestLivesOfWrongIns(t *testing.T) {
	for _, many := range []int{1, 2, 3, 75, 149, 150} {
		for _, at := range []int{0, 1, many / 2, many - 2, many - 1} {
			if at < 0 || at >= many {
				continue
			}
			for _, wrong := range []impl.In{feltIn(16), feltIn(-1), feltIn(math.MinInt), typedIn(strings.Repeat("s", 21)), {Link: strings.Repeat("y", 41)}, {Bits: 16, Keys: strings.Repeat("s", 21)}} {
				ins := lifeOf(many-1, typedIn("b2\n1\n9\n"))
				ins[at] = wrong
				wantNoLife(t, ins)
				ins[at] = impl.In{Bits: 15, Keys: strings.Repeat("s", 20), Link: strings.Repeat("y", 40)}
				if livedOf(t, ins).Refused != 1 {
					t.Errorf("an input at the edges, at %d of %d, is not lived", at, many)
				}
			}
		}
	}
	for _, wrong := range wrongIns() {
		wantNoLife(t, []impl.In{wrong})
		wantNoLife(t, []impl.In{{}, wrong, {}})
		wantNoLife(t, append(make([]impl.In, 150), wrong))
	}
	wantNoLife(t, make([]impl.In, 151))
	wantNoLife(t, make([]impl.In, 5000))
}

// drawnLink is mostly nothing; else an order, one that is likely to be refused, or none at all.
func drawnLink(d *drawer) string {
	if d.below(3) > 0 {
		return ""
	}
	o := drawnOrder(d)
	text := tellOrderText(o)
	if text == "" {
		text = withSum(bodyOf(o))
	}
	if d.below(4) > 0 {
		return text
	}
	turned := []byte(text)
	turned[d.below(len(turned))] ^= byte(1 + d.below(255))
	return string(turned)
}

func drawnTyped(d *drawer) string {
	const likely = "bboo0123459\n\n\n\n\ncpgsxq\xc3\xa9\xff"
	switch d.below(6) {
	case 0:
		return basalKeys(1+d.below(6), 1+d.below(4), 1+d.below(40))
	case 1:
		return bolusKeys(1 + d.below(30))
	case 2:
		return []string{"p", "g", "s", "x", "pg", "sg", "gs", "c", "cs"}[d.below(9)]
	case 3:
		keys := make([]byte, d.below(21))
		for i := range keys {
			keys[i] = likely[d.below(len(likely))]
		}
		return string(keys)
	}
	return ""
}

func drawnIn(d *drawer) impl.In {
	in := impl.In{Keys: drawnTyped(d), Link: drawnLink(d)}
	if d.below(12) == 0 {
		in.Bits = d.below(16)
	}
	// An alarm would last for most of a life, if only drawn orders were seen.
	if d.below(5) == 0 {
		in.Keys = "cs"
	}
	return in
}

func TestDrawnLives(t *testing.T) {
	d := drawer(18)
	held, full, refused, pulses := 0, 0, 0, 0
	ways := map[[2]int]int{}
	for range 400 {
		ins := make([]impl.In, d.below(151))
		for i := range ins {
			ins[i] = drawnIn(&d)
		}
		one := impl.DeviceNew()
		for _, in := range ins {
			next := tellTick(one, in)
			wantTick(t, one, in, next)
			wantDeviceOk(t, next, true)
			ways[[2]int{one.Pump.State, next.Pump.State}]++
			if next.Guard.Alarm != 0 {
				held++
			} else if tellRoom(one.Guard) < 6 && lastTick(next).Pulses == tellRoom(one.Guard) {
				full++
			}
			one = next
		}
		wantLife(t, ins, one, true)
		wantSound(t, one)
		refused += one.Refused
		pulses += one.Pump.Given
	}
	// A tick leads from each of the four states to each.
	if len(ways) != 16 || held < 1000 || full < 100 || refused < 1000 || pulses < 1000 {
		t.Errorf("the lives went %d ways, %d ticks were held, %d filled a span, %d orders were refused, %d pulses given", len(ways), held, full, refused, pulses)
	}
}

// A drawn device has numbers that no life leads to, right or not.
func drawnDevice(d *drawer) impl.Device {
	place := placesOfPumps()[d.below(6)]
	rates := ratesOfPumps()
	out := impl.Device{Pump: pumpAt(place[0], place[1], d.below(9)), Menu: topMenu()}
	out.Pump.Rate = rates[d.below(len(rates))]
	out.Pump.Given = []int{0, 7, impl.Big - 3, impl.Big}[d.below(4)]
	if d.below(2) == 0 {
		out.Menu = impl.Menu{At: 2 + d.below(3), Bolus: d.below(2) == 0, Num: d.below(5), Den: d.below(3), Digits: []string{"", "2", "03", "0001"}[d.below(4)]}
	}
	for range d.below(10) {
		out.Guard.Past = append(out.Guard.Past, d.below(7))
	}
	if d.below(3) == 0 {
		out.Guard.Alarm = d.below(17)
	}
	out.Ticks, out.Refused = someTicks(d.below(4)), d.below(50)
	if d.below(8) == 0 {
		out.Ticks = someTicks(198 + d.below(4))
	}
	if d.below(8) == 0 {
		out.Refused = []int{-1, impl.MaxNumber - 100, impl.MaxNumber - 99, impl.MaxNumber, impl.MaxNumber + 1}[d.below(5)]
	}
	if d.below(8) == 0 {
		edges := []int{math.MinInt, -1, 0, 1, 4, 101, 5001, impl.Big + 1, math.MaxInt}
		*placesInPump(&out.Pump)[d.below(8)] = edges[d.below(len(edges))]
	}
	return out
}

func TestDrawnDevices(t *testing.T) {
	d := drawer(180)
	right := 0
	for range 60000 {
		one, in := drawnDevice(&d), drawnIn(&d)
		if d.below(20) == 0 {
			in.Bits = []int{-1, 16, math.MaxInt, math.MinInt}[d.below(4)]
		}
		if tellDeviceOk(one) {
			right++
		}
		wantDeviceOk(t, one, tellDeviceOk(one))
		wantInOk(t, in, tellInOk(in))
		wantTick(t, one, in, tellTick(one, in))
	}
	if right < 20000 || right > 55000 {
		t.Errorf("%d of the devices were right", right)
	}
}

// extentsOfDevice tells the memory of its lists, with the room behind them, and of its text.
func extentsOfDevice(d impl.Device) []extent {
	all := []extent{extentOf(d.Guard.Past), extentOf(d.Ticks), textExtent(d.Menu.Digits)}
	return slices.DeleteFunc(all, func(e extent) bool { return e.from == e.to })
}

func spoilTicks(ticks []impl.Tick) {
	for i := range ticks {
		ticks[i] = impl.Tick{Pulses: fence, Alarm: fence, State: fence}
	}
}

func fencedTicks(list []impl.Tick, spare int) ([]impl.Tick, []impl.Tick) {
	memory := make([]impl.Tick, 2+len(list)+spare)
	spoilTicks(memory)
	copy(memory[2:], list)
	return memory[2 : 2+len(list)], memory
}

func someDevices() []impl.Device {
	all := slices.Concat(rightDevices(), wrongDevices())
	out := rightDevices()[len(rightDevices())-40:]
	for i := 0; i < len(all); i += 23 {
		out = append(out, all[i])
	}
	return out
}

func TestTicksShareNoMemory(t *testing.T) {
	ins := []impl.In{{}, feltIn(3), typedIn("s"), typedIn("7"), {Keys: "xb2\n1\n9\n", Link: tellOrderText(bolusOf(3))}, {Link: "?"}, feltIn(16), typedIn(strings.Repeat("x", 21))}
	for _, one := range someDevices() {
		for _, spare := range []int{0, 1, 12} {
			given := copyOfDevice(one)
			past, pastMemory := fencedNumbers(one.Guard.Past, spare)
			ticks, tickMemory := fencedTicks(one.Ticks, spare)
			given.Guard.Past, given.Ticks, given.Menu.Digits = past, ticks, strings.Clone(one.Menu.Digits)
			pastBefore, ticksBefore := slices.Clone(pastMemory), slices.Clone(tickMemory)
			memory := append(extentsOfDevice(given), extentOf(pastMemory), extentOf(tickMemory))
			for _, in := range ins {
				want := tellTick(copyOfDevice(one), in)
				answer := impl.TickDevice(given, in)
				wantOwnMemory(t, "TickDevice", memory, extentsOfDevice(answer))
				again := impl.TickDevice(given, in)
				wantOwnMemory(t, "TickDevice, again", append(extentsOfDevice(answer), memory...), extentsOfDevice(again))
				// What is done with the first answer is not to be seen in the second one.
				fill(answer.Guard.Past[:cap(answer.Guard.Past)], fence)
				spoilTicks(answer.Ticks[:cap(answer.Ticks)])
				if !sameDevice(again, want) {
					t.Fatalf("TickDevice made %s, want %s", shownDevice(again), shownDevice(want))
				}
			}
			impl.DeviceOk(given)
			if !slices.Equal(pastMemory, pastBefore) || !slices.Equal(tickMemory, ticksBefore) || !sameDevice(given, one) {
				t.Fatalf("of %s, calls made %s", shownDevice(one), shownDevice(given))
			}
		}
	}
}

// Two lives that go on from one device stay apart.
func TestDevicesOfOneDeviceStayApart(t *testing.T) {
	start := livedOf(t, lifeOf(5, typedIn("b2\n1\n90\n")))
	one, other := impl.TickDevice(start, typedIn("p")), impl.TickDevice(start, typedIn("o4\n"))
	one, other = impl.TickDevice(one, impl.In{}), impl.TickDevice(other, impl.In{})
	if got := pulsesOf(one); !slices.Equal(got, []int{2, 2, 2, 2, 2, 2, 0, 0}) {
		t.Errorf("the one's pulses are %v", got)
	}
	if got := pulsesOf(other); !slices.Equal(got, []int{2, 2, 2, 2, 2, 2, 5, 3}) {
		t.Errorf("the other's pulses are %v", got)
	}
	if len(start.Ticks) != 6 || len(start.Guard.Past) != 6 {
		t.Errorf("what both come from is %s", shownDevice(start))
	}
}

func TestLivesLeaveTheirIns(t *testing.T) {
	d := drawer(181)
	for many := range 60 {
		memory := make([]impl.In, many+9)
		for i := range memory {
			memory[i] = drawnIn(&d)
		}
		before := slices.Clone(memory)
		ins := memory[3 : 3+many]
		first := livedOf(t, ins)
		second := livedOf(t, ins)
		wantOwnMemory(t, "RunDevice", extentsOfDevice(first), extentsOfDevice(second))
		spoilTicks(first.Ticks[:cap(first.Ticks)])
		fill(first.Guard.Past[:cap(first.Guard.Past)], fence)
		want, _ := tellLife(ins)
		wantLife(t, ins, want, true)
		if !sameDevice(second, want) || !slices.Equal(memory, before) {
			t.Fatalf("the lives of %v came to %s", before[3:3+many], shownDevice(second))
		}
	}
}

// A new device that was written into leaves the next one new.
func TestNewDevicesStayNew(t *testing.T) {
	for range 3 {
		d := impl.DeviceNew()
		d.Guard.Past, d.Ticks = append(d.Guard.Past, fence), append(d.Ticks, impl.Tick{Pulses: fence})
		d.Pump.Given, d.Menu.At, d.Refused = 5, 4, 6
		if !sameDevice(impl.DeviceNew(), newDevice()) {
			t.Error("a new device is not new")
		}
		wantLife(t, nil, newDevice(), true)
	}
}

func TestDevicesOfManyAtOnce(t *testing.T) {
	d := drawer(182)
	ins := make([]impl.In, 150)
	for i := range ins {
		ins[i] = drawnIn(&d)
	}
	devices := rightDevices()
	want, _ := tellLife(ins)
	var all sync.WaitGroup
	for part := range 16 {
		all.Go(func() {
			if got, ok := impl.RunDevice(ins); !ok || !sameDevice(got, want) {
				t.Errorf("one of many lives is %s", shownDevice(got))
			}
			for i := part; i < len(devices); i += 8 {
				in := ins[i%len(ins)]
				if got := impl.TickDevice(devices[i], in); !sameDevice(got, tellTick(devices[i], in)) {
					t.Errorf("one of many ticks is %s", shownDevice(got))
				}
			}
		})
	}
	all.Wait()
}
