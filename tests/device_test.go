package tests

import (
	"fmt"
	"math"
	"slices"
	"strings"
	"testing"

	"loop.example/g00200/impl"
)

var (
	orderPause = impl.Order{Kind: impl.OrderPause}
	orderGo    = impl.Order{Kind: impl.OrderGo}
	orderSeen  = impl.Order{Kind: impl.OrderSeen}
	orderStop  = impl.Order{Kind: impl.OrderStop}
)

func typedIn(keys string) impl.In {
	return impl.In{Keys: keys}
}

func linkedIn(o impl.Order) impl.In {
	return impl.In{Link: tellOrderText(o)}
}

func feltIn(bits int) impl.In {
	return impl.In{Bits: bits}
}

// deviceOf is a right device with this pump, and with nothing else that is not new.
func deviceOf(p impl.Pump) impl.Device {
	return impl.Device{Pump: p, Menu: topMenu()}
}

func newDevice() impl.Device {
	return deviceOf(impl.Pump{Rate: rateOf(0, 1, 0)})
}

// someTicks have no two alike, and numbers that no tick of a life would have.
func someTicks(size int) []impl.Tick {
	var out []impl.Tick
	for i := range size {
		out = append(out, impl.Tick{Pulses: 7 * i, Alarm: i - 3, State: 100 - i})
	}
	return out
}

func sameDevice(a impl.Device, b impl.Device) bool {
	return a.Pump == b.Pump && sameGuard(a.Guard, b.Guard) && a.Menu == b.Menu && slices.Equal(a.Ticks, b.Ticks) && a.Refused == b.Refused
}

func copyOfDevice(d impl.Device) impl.Device {
	d.Guard.Past = slices.Clone(d.Guard.Past)
	d.Ticks = slices.Clone(d.Ticks)
	return d
}

func shownDevice(d impl.Device) string {
	last := d.Ticks[max(len(d.Ticks)-9, 0):]
	return fmt.Sprintf("{%+v alarm %d past %.90s menu %s, %d ticks (the last are %v), refused %d}", d.Pump, d.Guard.Alarm, fmt.Sprint(d.Guard.Past), shownMenu(d.Menu), len(d.Ticks), last, d.Refused)
}

func shownIn(in impl.In) string {
	return fmt.Sprintf("{%d %.30q %.50q}", in.Bits, in.Keys, in.Link)
}

func rightIns() []impl.In {
	out := []impl.In{{}, typedIn(strings.Repeat("x", 20)), typedIn(strings.Repeat("\xff", 20)), {Link: strings.Repeat("y", 40)}, {Link: "x"}}
	for _, keys := range []string{"s", "b2\n1\n9\n", "o5\n", "pg", "x", "b2\n", "7", "o", "c", "sob1\n"} {
		out = append(out, typedIn(keys), impl.In{Bits: 5, Keys: keys, Link: tellOrderText(orderSeen)}, impl.In{Keys: keys, Link: "?"}, impl.In{Keys: keys, Link: tellOrderText(basalOf(1, 2, 3))})
	}
	for _, o := range rightOrders()[:12] {
		out = append(out, linkedIn(o))
	}
	for bits := range 16 {
		out = append(out, feltIn(bits))
	}
	return out
}

// wrongIns have one thing alone, two or all three that are not right.
func wrongIns() []impl.In {
	keys := []string{strings.Repeat("x", 21), strings.Repeat("s", 22), strings.Repeat("\n", 300), strings.Repeat("é", 11), strings.Repeat("b", 70000)}
	links := []string{strings.Repeat("y", 41), strings.Repeat("\x00", 42), strings.Repeat(tellOrderText(orderStop), 6), strings.Repeat("z", 70000)}
	var out []impl.In
	for _, bits := range wrongBits() {
		out = append(out, feltIn(bits), impl.In{Bits: bits, Keys: "x", Link: tellOrderText(orderStop)}, impl.In{Bits: bits, Keys: keys[0]}, impl.In{Bits: bits, Link: links[0]})
	}
	for _, typed := range keys {
		out = append(out, typedIn(typed), impl.In{Bits: 15, Keys: typed}, impl.In{Bits: 16, Keys: typed, Link: links[0]})
		for _, link := range links {
			out = append(out, impl.In{Keys: typed, Link: link})
		}
	}
	for _, link := range links {
		out = append(out, impl.In{Link: link}, impl.In{Bits: 3, Keys: "s", Link: link})
	}
	return out
}

func rightDevices() []impl.Device {
	guards := []impl.Guard{{}, guardOf(4), guardOf(0, 5, 6), guardOf(0, evenPast(9, 3)...), guardOf(0, 30), guardOf(9, 28, 0, 1)}
	menus := []impl.Menu{topMenu(), {At: 2}, {At: 3, Num: 3, Digits: "2"}, {At: 4, Num: 3, Den: 2, Digits: "9"}, {At: 4, Bolus: true, Digits: "12"}}
	var out []impl.Device
	for _, place := range placesOfPumps() {
		for i, g := range guards {
			for j, m := range menus {
				p := pumpAt(place[0], place[1], []int{0, 4}[(i+j)%2])
				out = append(out, impl.Device{Pump: p, Guard: g, Menu: m, Ticks: someTicks((i * 7) % 5), Refused: 3 * j})
			}
		}
	}
	for _, many := range []int{0, 1, 198, 199, 200} {
		for _, refused := range []int{0, 1, impl.MaxNumber - 101, impl.MaxNumber - 100, impl.MaxNumber - 99, impl.MaxNumber} {
			d := deviceOf(pumpAt(1, 0, 4))
			d.Ticks, d.Refused = someTicks(many), refused
			out = append(out, d)
		}
	}
	return append(out, newDevice())
}

// wrongDevices have each one thing alone that is not right.
func wrongDevices() []impl.Device {
	out := []impl.Device{{}, {Pump: impl.PumpNew()}, {Menu: topMenu()}}
	for _, p := range wrongPumps() {
		out = append(out, deviceOf(p))
	}
	add := func(spoil func(d *impl.Device)) {
		d := deviceOf(pumpAt(1, 0, 4))
		spoil(&d)
		out = append(out, d)
	}
	for _, g := range wrongGuards() {
		add(func(d *impl.Device) { d.Guard = g })
	}
	for _, m := range wrongMenus() {
		add(func(d *impl.Device) { d.Menu = m })
	}
	for _, many := range []int{201, 202, 256, 400, 5000} {
		add(func(d *impl.Device) { d.Ticks = someTicks(many) })
	}
	for _, n := range []int{-1, -2, -100, impl.MaxNumber + 1, impl.MaxNumber + 2, 1 << 32, 1<<32 + 5, -1 << 32, math.MaxInt, math.MinInt} {
		add(func(d *impl.Device) { d.Refused = n })
	}
	return out
}

func tellInOk(in impl.In) bool {
	return 0 <= in.Bits && in.Bits < 16 && len(in.Keys) < 21 && len(in.Link) < 41
}

func tellDeviceOk(d impl.Device) bool {
	return tellPumpOk(d.Pump) && tellGuardOk(d.Guard) && tellMenuOk(d.Menu) && len(d.Ticks) < 201 && isCount(d.Refused)
}

func tellTick(d impl.Device, in impl.In) impl.Device {
	if !tellDeviceOk(d) || !tellInOk(in) || len(d.Ticks) == 200 || d.Refused > 999999900 {
		return d
	}
	menu, orders := tellPressAll(d.Menu, in.Keys)
	if o, ok := tellOrder(in.Link); ok {
		orders = append(orders, o)
	} else if len(in.Link) > 0 {
		d.Refused++
	}
	for _, o := range orders {
		next, ok := tellTake(d.Pump, o)
		if !ok && o != orderSeen {
			d.Refused++
		}
		d.Pump = next
	}
	d.Menu = menu
	d.Guard = tellFeel(d.Guard, in.Bits, slices.Contains(orders, orderSeen))
	n := tellAllow(d.Guard, tellWants(d.Pump))
	if d.Guard.Alarm == 0 {
		d.Pump = tellGive(d.Pump, n)
	}
	d.Guard = tellPass(d.Guard, n)
	d.Ticks = append(slices.Clone(d.Ticks), impl.Tick{Pulses: n, Alarm: d.Guard.Alarm, State: d.Pump.State})
	return d
}

func wantInOk(t *testing.T, in impl.In, want bool) {
	t.Helper()
	if got := impl.InOk(in); got != want {
		t.Errorf("InOk(%s) = %v, want %v", shownIn(in), got, want)
	}
}

func wantDeviceOk(t *testing.T, d impl.Device, want bool) {
	t.Helper()
	if got := impl.DeviceOk(d); got != want {
		t.Errorf("DeviceOk(%s) = %v, want %v", shownDevice(d), got, want)
	}
}

func wantTick(t *testing.T, d impl.Device, in impl.In, want impl.Device) {
	t.Helper()
	if got := impl.TickDevice(d, in); !sameDevice(got, want) {
		t.Fatalf("TickDevice(%s, %s) =\n%s, want\n%s", shownDevice(d), shownIn(in), shownDevice(got), shownDevice(want))
	}
}

// wantAsItIs asks that there is no tick.
func wantAsItIs(t *testing.T, d impl.Device, in impl.In) {
	t.Helper()
	wantTick(t, d, in, d)
}

// ticked is a device behind a tick, which must be right and tell of one tick more.
func ticked(t *testing.T, d impl.Device, in impl.In) impl.Device {
	t.Helper()
	next := impl.TickDevice(d, in)
	if !impl.DeviceOk(next) || len(next.Ticks) != len(d.Ticks)+1 || !slices.Equal(next.Ticks[:len(d.Ticks)], d.Ticks) {
		t.Fatalf("TickDevice(%s, %s) =\n%s", shownDevice(d), shownIn(in), shownDevice(next))
	}
	return next
}

func lastTick(d impl.Device) impl.Tick {
	return d.Ticks[len(d.Ticks)-1]
}

func TestInOk(t *testing.T) {
	for _, in := range rightIns() {
		wantInOk(t, in, true)
	}
	for _, in := range wrongIns() {
		wantInOk(t, in, false)
	}
}

func TestInOkAtAllEdges(t *testing.T) {
	for bits := -40; bits <= 60; bits++ {
		for _, keys := range []int{0, 1, 19, 20, 21, 22, 40, 255, 256, 276} {
			for _, link := range []int{0, 1, 20, 21, 39, 40, 41, 42, 256, 296} {
				in := impl.In{Bits: bits, Keys: strings.Repeat("k", keys), Link: strings.Repeat("\xe9", link)}
				wantInOk(t, in, 0 <= bits && bits <= 15 && keys <= 20 && link <= 40)
			}
		}
	}
	for _, bits := range []int{impl.SenseBlock, impl.SenseAir, impl.SenseDoor, impl.SensePower} {
		wantInOk(t, feltIn(bits), true)
	}
	for _, bits := range []int{math.MaxInt, math.MinInt, 1 << 32, 1<<32 + 1, -1 << 32} {
		wantInOk(t, feltIn(bits), false)
	}
}

// Keys and links may be of any bytes; bytes are counted, not signs.
func TestInOkOfAnyBytes(t *testing.T) {
	for sign := range 256 {
		one := string([]byte{byte(sign)})
		wantInOk(t, impl.In{Keys: strings.Repeat(one, 20), Link: strings.Repeat(one, 40)}, true)
		wantInOk(t, typedIn(strings.Repeat(one, 21)), false)
		wantInOk(t, impl.In{Link: strings.Repeat(one, 41)}, false)
	}
	wantInOk(t, impl.In{Keys: strings.Repeat("é", 10), Link: strings.Repeat("é", 20)}, true)
	wantInOk(t, typedIn(strings.Repeat("é", 10)+"c"), false)
	wantInOk(t, impl.In{Link: strings.Repeat("é", 20) + "c"}, false)
}

func TestDeviceNew(t *testing.T) {
	for range 3 {
		d := impl.DeviceNew()
		if d.Pump != (impl.Pump{State: impl.PumpIdle, Rate: impl.Rate{Den: 1}}) || d.Menu != (impl.Menu{At: impl.MenuTop}) {
			t.Errorf("DeviceNew() = %s", shownDevice(d))
		}
		if len(d.Guard.Past) != 0 || d.Guard.Alarm != 0 || len(d.Ticks) != 0 || d.Refused != 0 {
			t.Errorf("DeviceNew() = %s", shownDevice(d))
		}
		wantDeviceOk(t, d, true)
	}
}

func TestDeviceOk(t *testing.T) {
	for _, d := range rightDevices() {
		wantDeviceOk(t, d, true)
	}
	for _, d := range wrongDevices() {
		wantDeviceOk(t, d, false)
	}
	wantDeviceOk(t, impl.Device{}, false)
}

func TestDeviceOkOfEachPart(t *testing.T) {
	for _, p := range rightPumps()[:2000] {
		wantDeviceOk(t, deviceOf(p), true)
	}
	for _, g := range rightGuards() {
		d := newDevice()
		d.Guard = g
		wantDeviceOk(t, d, true)
	}
	for _, m := range rightMenus() {
		d := newDevice()
		d.Menu = m
		wantDeviceOk(t, d, true)
	}
	// A part that is right makes up for no other.
	for _, d := range []impl.Device{{Guard: guardOf(16), Menu: topMenu(), Pump: pumpAt(1, 0, 0)}, {Guard: guardOf(0, 31), Menu: topMenu(), Pump: pumpAt(1, 0, 0)}, {Pump: pumpAt(1, 0, 0)}} {
		wantDeviceOk(t, d, false)
	}
}

func TestDeviceOkOfTicksAndRefused(t *testing.T) {
	for many := range 260 {
		d := newDevice()
		// What a tick tells is not looked at.
		d.Ticks = slices.Repeat([]impl.Tick{{Pulses: math.MinInt, Alarm: math.MaxInt, State: -1}}, many)
		wantDeviceOk(t, d, many <= 200)
	}
	for _, n := range []int{0, 1, 100, impl.MaxNumber - 100, impl.MaxNumber - 99, impl.MaxNumber - 1, impl.MaxNumber} {
		d := newDevice()
		d.Refused = n
		wantDeviceOk(t, d, true)
	}
	for _, n := range []int{-1, impl.MaxNumber + 1, math.MaxInt, math.MinInt, 1 << 32, -1 << 32} {
		d := newDevice()
		d.Refused = n
		wantDeviceOk(t, d, false)
	}
}

func TestTicksOfWrongDevicesAndIns(t *testing.T) {
	ins := []impl.In{{}, typedIn("s"), {Bits: 1, Keys: "x", Link: "?"}, linkedIn(basalOf(1, 1, 5)), feltIn(16), typedIn(strings.Repeat("x", 21))}
	for _, d := range wrongDevices() {
		for _, in := range ins {
			wantAsItIs(t, d, in)
		}
	}
	for _, in := range wrongIns() {
		for _, d := range rightDevices()[:60] {
			wantAsItIs(t, d, in)
		}
	}
}

func TestTicksOfAllRightOnes(t *testing.T) {
	for _, d := range rightDevices() {
		for _, in := range rightIns() {
			wantTick(t, d, in, tellTick(d, in))
		}
	}
}

func TestTheLastTickThatThereMayBe(t *testing.T) {
	for many := range 200 {
		d := deviceOf(runningPump(rateOf(2, 1, 0), 9, 0))
		d.Ticks = someTicks(many)
		next := ticked(t, d, impl.In{})
		if lastTick(next) != (impl.Tick{Pulses: 2, State: 1}) {
			t.Errorf("behind %d ticks there is %+v", many, lastTick(next))
		}
	}
	d := deviceOf(runningPump(rateOf(2, 1, 0), 9, 0))
	d.Ticks = someTicks(200)
	for _, in := range rightIns() {
		wantAsItIs(t, d, in)
	}
}

func TestRefusedThatHasNoRoom(t *testing.T) {
	in := impl.In{Keys: strings.Repeat("g", 20), Link: "?"}
	for _, refused := range []int{0, 5, impl.MaxNumber - 200, impl.MaxNumber - 101, impl.MaxNumber - 100} {
		d := newDevice()
		d.Refused = refused
		next := ticked(t, d, in)
		if next.Refused != refused+21 {
			t.Errorf("of %d, 21 orders refused make %d", refused, next.Refused)
		}
	}
	for _, refused := range []int{impl.MaxNumber - 99, impl.MaxNumber - 98, impl.MaxNumber - 79, impl.MaxNumber - 1, impl.MaxNumber} {
		d := deviceOf(pumpAt(1, 0, 4))
		d.Refused = refused
		for _, one := range append(rightIns(), in) {
			wantAsItIs(t, d, one)
		}
	}
}

// telling is what is told in one tick to a pump, and what it is behind it, but for what that tick gives.
type telling struct {
	what    string
	pump    impl.Pump
	keys    string
	link    impl.Order
	want    impl.Pump
	refused int
}

// wantTelling tells it with an alarm, which leaves the pump as the orders left it; and then without one.
func wantTelling(t *testing.T, c telling) {
	t.Helper()
	in := impl.In{Bits: impl.SensePower, Keys: c.keys}
	if c.link != (impl.Order{}) {
		in.Link = tellOrderText(c.link)
	}
	d := ticked(t, deviceOf(c.pump), in)
	if d.Pump != c.want || d.Refused != c.refused || d.Menu != topMenu() || lastTick(d) != (impl.Tick{Alarm: 8, State: c.want.State}) {
		t.Errorf("%s: with an alarm it makes %s, want %+v, refused %d", c.what, shownDevice(d), c.want, c.refused)
	}
	in.Bits = 0
	d = ticked(t, deviceOf(c.pump), in)
	n := tellWants(c.want)
	want := tellGive(c.want, n)
	if d.Pump != want || d.Refused != c.refused || lastTick(d) != (impl.Tick{Pulses: n, State: want.State}) {
		t.Errorf("%s: it makes %s, want %+v, refused %d", c.what, shownDevice(d), want, c.refused)
	}
}

func TestWhatIsToldInOneTick(t *testing.T) {
	idle := impl.PumpNew()
	basal := runningPump(rateOf(1, 2, 1), 9, 0)
	keep := keepingPump(rateOf(1, 50, 7), 0)
	paused := impl.Pump{State: 3, Back: 1, Rate: rateOf(1, 2, 1), Left: 9, Given: 40}
	stopped := impl.Pump{Rate: rateOf(1, 2, 1), Given: 40}
	fresh := func(bolus int) impl.Pump {
		return impl.Pump{State: 1, Rate: rateOf(3, 2, 0), Left: 8, Bolus: bolus}
	}
	withBolus := func(p impl.Pump, bolus int) impl.Pump {
		p.Bolus = bolus
		return p
	}
	none := impl.Order{}
	for _, c := range []telling{
		{"nothing", basal, "", none, basal, 0},
		{"keys alone", idle, "b3\n2\n8\n", none, fresh(0), 0},
		{"a link alone", idle, "", basalOf(3, 2, 8), fresh(0), 0},
		{"keys come ahead of the link: a bolus behind a basal order", idle, "b3\n2\n8\n", bolusOf(5), fresh(5), 0},
		{"keys come ahead of the link: a bolus ahead of a basal order", idle, "o5\n", basalOf(3, 2, 8), fresh(0), 1},
		{"a bolus behind a basal order, by keys", idle, "b3\n2\n8\no5\n", none, fresh(5), 0},
		{"a bolus ahead of a basal order, by keys", idle, "o5\nb3\n2\n8\n", none, fresh(0), 1},
		{"a bolus, a basal order and a bolus", idle, "o5\nb3\n2\n8\no6\n", none, fresh(6), 1},
		{"a bolus, a basal order, and a bolus by the link", idle, "o5\nb3\n2\n8\n", bolusOf(7), fresh(7), 1},
		{"two boluses", basal, "o5\no6\n", none, withBolus(basal, 5), 1},
		{"two boluses, one by the link", basal, "o5\n", bolusOf(6), withBolus(basal, 5), 1},
		{"a bolus beside a bolus", withBolus(basal, 1), "", bolusOf(6), withBolus(basal, 1), 1},
		{"a basal order while one is given", basal, "b3\n2\n8\n", none, basal, 1},
		{"a basal order while it keeps open", keep, "", basalOf(3, 2, 8), impl.Pump{State: 1, Rate: rateOf(3, 2, 0), Left: 8, Given: 40}, 0},
		{"a pause", basal, "p", none, paused, 0},
		{"a pause and a go", basal, "pg", none, basal, 0},
		{"a go and a pause", basal, "gp", none, paused, 1},
		{"a pause by keys, a go by the link", basal, "p", orderGo, basal, 0},
		{"a go by keys, a pause by the link", basal, "g", orderPause, paused, 1},
		{"two pauses", basal, "pp", none, paused, 1},
		{"a pause, a bolus and a go", basal, "po5\ng", none, basal, 1},
		{"a pause, a go and a bolus", basal, "pg", bolusOf(5), withBolus(basal, 5), 0},
		{"a bolus, and a pause by the link", basal, "o5\n", orderPause, withBolus(paused, 5), 0},
		{"a go of a pump that is paused, and a bolus", paused, "go5\n", none, withBolus(basal, 5), 0},
		{"a stop", basal, "x", none, stopped, 0},
		{"a stop and a new order", basal, "xb3\n2\n8\n", none, impl.Pump{State: 1, Rate: rateOf(3, 2, 0), Left: 8, Given: 40}, 0},
		{"a stop, and a new order by the link", paused, "x", basalOf(3, 2, 8), impl.Pump{State: 1, Rate: rateOf(3, 2, 0), Left: 8, Given: 40}, 0},
		{"a new order and a stop", basal, "b3\n2\n8\nx", none, stopped, 1},
		{"a stop and a go", paused, "xg", none, stopped, 1},
		{"a new order, and a stop by the link", idle, "b3\n2\n8\n", orderStop, impl.Pump{Rate: rateOf(3, 2, 0)}, 0},
		{"stops of an idle pump", idle, "xxx", orderStop, idle, 0},
		{"a pause of an idle pump", idle, "p", none, idle, 1},
		{"all that an idle pump refuses", idle, "pgo1\npg", bolusOf(9), idle, 6},
		{"keys that make no order are not refused", basal, "b1\n\nc8zo0\n\nq\xff7", none, basal, 0},
	} {
		wantTelling(t, c)
	}
}

func TestRefusedLinks(t *testing.T) {
	texts := []string{"x", "\x00", " ", strings.Repeat("y", 40), "\x05\x00\x00\x00", withSum(""), withSum("abc"), withSum(strings.Repeat("q", 36)), withSum(bodyOf(orderSeen) + "\x00")}
	for _, o := range []impl.Order{basalOf(4, 1, 5), basalOf(1, 1, 5001), basalOf(0, 1, 5), bolusOf(101), bolusOf(0), {Kind: 5, Num: 1}, {Kind: 6, Volume: 1}, {Kind: 0}, {Kind: 7}, {Kind: 3, Den: 9}} {
		texts = append(texts, withSum(bodyOf(o)))
	}
	for _, o := range []impl.Order{basalOf(3, 2, 8), bolusOf(5), orderPause, orderSeen, orderStop} {
		text := tellOrderText(o)
		texts = append(texts, text[1:], text[:len(text)-1], text+"\x00", text+text, " "+text)
		for place := range len(text) {
			for _, turn := range []byte{1, 2, 0x80, 0xff} {
				turned := []byte(text)
				turned[place] ^= turn
				texts = append(texts, string(turned))
			}
		}
	}
	for _, text := range texts {
		for _, p := range []impl.Pump{impl.PumpNew(), pumpAt(1, 0, 0), pumpAt(2, 0, 0), pumpAt(3, 1, 4)} {
			d := deviceOf(p)
			d.Refused, d.Guard.Alarm = 6, 2
			next := ticked(t, d, impl.In{Link: text})
			if next.Refused != 7 || next.Pump != p || next.Guard.Alarm != 2 {
				t.Fatalf("the link %q made %s", text, shownDevice(next))
			}
			// Beside orders of keys that are refused, and others that are taken.
			next = ticked(t, d, impl.In{Keys: "xpgxp", Link: text})
			if next.Refused != 10 || next.Pump.State != 0 {
				t.Fatalf("the link %q with keys made %s", text, shownDevice(next))
			}
		}
	}
}

func TestALinkOfNothingIsNotRefused(t *testing.T) {
	for _, d := range rightDevices() {
		if len(d.Ticks) < 200 && d.Refused <= impl.MaxNumber-100 {
			if next := ticked(t, d, impl.In{}); next.Refused != d.Refused {
				t.Errorf("nothing is refused: %s", shownDevice(next))
			}
		}
	}
}

func TestSeenOrders(t *testing.T) {
	seens := []impl.In{typedIn("s"), linkedIn(orderSeen), {Keys: "s", Link: tellOrderText(orderSeen)}, typedIn("ssss"), typedIn("cs7"), {Keys: "s", Link: "?"}, {Keys: "ps"}, {Keys: "sp"}, {Keys: "p", Link: tellOrderText(orderSeen)}, {Keys: "s", Link: tellOrderText(orderPause)}}
	for _, place := range placesOfPumps() {
		for alarm := range 16 {
			for bits := range 16 {
				for i, in := range seens {
					in.Bits = bits
					d := deviceOf(pumpAt(place[0], place[1], 0))
					d.Guard.Alarm = alarm
					next := ticked(t, d, in)
					if next.Guard.Alarm != bits || lastTick(next).Alarm != bits {
						t.Fatalf("of %d, %s leaves the alarm %d", alarm, shownIn(in), next.Guard.Alarm)
					}
					// The first five have nothing that a pump could refuse.
					if i < 5 && next.Refused != 0 {
						t.Fatalf("%s refuses %d", shownIn(in), next.Refused)
					}
					in.Keys, in.Link = "", ""
					if next = ticked(t, d, in); lastTick(next).Alarm != alarm|bits {
						t.Fatalf("%d, unseen, and %d make %d", alarm, bits, lastTick(next).Alarm)
					}
				}
			}
		}
	}
}

// A text that tells OrderSeen, but is not right, and keys that are no such key, see nothing.
func TestWhatIsNotSeen(t *testing.T) {
	for _, in := range []impl.In{typedIn("S"), typedIn("os"), typedIn("bs"), {Link: "s"}, {Link: bodyOf(orderSeen)}, {Link: tellOrderText(orderSeen) + "s"}, typedIn("xpg"), linkedIn(orderGo), linkedIn(orderStop)} {
		d := newDevice()
		d.Guard.Alarm = 6
		if next := ticked(t, d, in); next.Guard.Alarm != 6 || lastTick(next).Alarm != 6 {
			t.Errorf("%s makes the alarm %d", shownIn(in), next.Guard.Alarm)
		}
	}
	// Where the menu is not at the top, the key is none.
	d := newDevice()
	d.Guard.Alarm, d.Menu = 6, impl.Menu{At: 4, Bolus: true, Digits: "5"}
	if next := ticked(t, d, typedIn("s")); next.Guard.Alarm != 6 || next.Menu != d.Menu {
		t.Errorf("elsewhere the key makes %s", shownDevice(next))
	}
}

func TestAnAlarmHoldsThePump(t *testing.T) {
	for _, place := range placesOfPumps() {
		for bits := 1; bits < 16; bits++ {
			for _, felt := range []bool{false, true} {
				d := deviceOf(pumpAt(place[0], place[1], 4))
				d.Guard = guardOf(0, 1, 2)
				in := impl.In{}
				if felt {
					in.Bits = bits
				} else {
					d.Guard.Alarm = bits
				}
				next := ticked(t, d, in)
				if next.Pump != d.Pump || !slices.Equal(next.Guard.Past, []int{0, 1, 2}) || lastTick(next) != (impl.Tick{Alarm: bits, State: place[0]}) {
					t.Fatalf("an alarm made %s of %s", shownDevice(next), shownDevice(d))
				}
			}
		}
	}
}

func TestWhatIsNotGivenStays(t *testing.T) {
	pump := runningPump(rateOf(5, 2, 1), 40, 9)
	for _, c := range []struct {
		past       []int
		n          int
		bolus, lft int
	}{
		{nil, 6, 6, 37}, {[]int{24}, 6, 6, 37}, {[]int{25}, 5, 6, 38}, {[]int{26}, 4, 6, 39}, {[]int{27}, 3, 6, 40}, {[]int{28}, 2, 7, 40}, {[]int{29}, 1, 8, 40}, {[]int{30}, 0, 9, 40},
		{[]int{10, 10, 10}, 0, 9, 40}, {evenPast(9, 3), 3, 6, 40}, {[]int{0, 0, 0, 0, 0, 0, 0, 0, 30}, 0, 9, 40},
	} {
		d := deviceOf(pump)
		d.Guard.Past = c.past
		next := ticked(t, d, impl.In{})
		want := impl.Pump{State: 1, Rate: rateOf(5, 2, 0), Left: c.lft, Bolus: c.bolus, Given: 40 + c.n}
		if next.Pump != want || lastTick(next) != (impl.Tick{Pulses: c.n, State: 1}) || next.Guard.Past[0] != c.n || len(next.Guard.Past) != min(len(c.past)+1, 9) {
			t.Errorf("behind %v the tick makes %s, want %+v", c.past, shownDevice(next), want)
		}
	}
}

// A tick tells what is behind it: the last pulse makes a pump keep open, an order of the same tick counts, and what is felt, too.
func TestATickTellsWhatIsBehindIt(t *testing.T) {
	for _, c := range []struct {
		what string
		pump impl.Pump
		in   impl.In
		want impl.Tick
	}{
		{"nothing of an idle pump", impl.PumpNew(), impl.In{}, impl.Tick{}},
		{"the first tick of an order", impl.PumpNew(), typedIn("b2\n1\n9\n"), impl.Tick{Pulses: 2, State: 1}},
		{"an order whose only pulses come at once", impl.PumpNew(), typedIn("b3\n1\n3\n"), impl.Tick{Pulses: 3, State: 2}},
		{"an order that is felt beside it", impl.PumpNew(), impl.In{Bits: 4, Keys: "b2\n1\n9\n"}, impl.Tick{Alarm: 4, State: 1}},
		{"the last pulse", runningPump(rateOf(2, 1, 0), 1, 0), impl.In{}, impl.Tick{Pulses: 1, State: 2}},
		{"the last pulse, with an alarm", runningPump(rateOf(2, 1, 0), 1, 0), feltIn(9), impl.Tick{Alarm: 9, State: 1}},
		{"one ahead of the last pulse", runningPump(rateOf(2, 1, 0), 3, 0), impl.In{}, impl.Tick{Pulses: 2, State: 1}},
		{"a tick without a pulse", runningPump(rateOf(1, 2, 0), 3, 0), impl.In{}, impl.Tick{State: 1}},
		{"a bolus", keepingPump(rateOf(1, 50, 0), 0), typedIn("o5\n"), impl.Tick{Pulses: 3, State: 2}},
		{"a pulse that keeps open", keepingPump(rateOf(1, 50, 49), 0), impl.In{}, impl.Tick{Pulses: 1, State: 2}},
		{"a pause", runningPump(rateOf(2, 1, 0), 9, 5), typedIn("p"), impl.Tick{State: 3}},
		{"a go", pumpAt(3, 1, 0), typedIn("g"), impl.Tick{Pulses: 1, State: 1}},
		{"a stop", runningPump(rateOf(2, 1, 0), 9, 5), linkedIn(orderStop), impl.Tick{}},
	} {
		if got := lastTick(ticked(t, deviceOf(c.pump), c.in)); got != c.want {
			t.Errorf("%s: the tick tells %+v, want %+v", c.what, got, c.want)
		}
	}
}

// The menu goes on from tick to tick; keys may come one in each.
func TestKeysOverManyTicks(t *testing.T) {
	const keys = "b2\n1\n9\no0004\n"
	for size := 1; size <= len(keys); size++ {
		d := newDevice()
		made := 0
		for at := 0; at < len(keys); at += size {
			d = ticked(t, d, impl.In{Bits: 1, Keys: keys[at:min(at+size, len(keys))]})
			want, orders := tellPressAll(topMenu(), keys[:min(at+size, len(keys))])
			if made += len(orders); d.Menu != want || (d.Pump.Left == 9) != (len(orders) > 0) || (d.Pump.Bolus == 4) != (len(orders) > 1) {
				t.Fatalf("behind %q there is %s", keys[:min(at+size, len(keys))], shownDevice(d))
			}
		}
		if made == 0 || d.Refused != 0 || d.Pump != (impl.Pump{State: 1, Rate: rateOf(2, 1, 0), Left: 9, Bolus: 4}) {
			t.Errorf("behind all keys, %d a tick, there is %s", size, shownDevice(d))
		}
	}
}

func TestTicksOfEachNumberAlone(t *testing.T) {
	in := impl.In{Bits: 2, Keys: "so3\np", Link: tellOrderText(orderGo)}
	numbers := []int{math.MinInt, -1, 0, 1, 2, 3, 4, 9, 16, 31, 101, 5001, impl.Big, impl.Big + 1, 1 << 32, math.MaxInt}
	for _, place := range placesOfPumps() {
		d := impl.Device{Pump: pumpAt(place[0], place[1], 4), Guard: guardOf(1, 4, 5), Menu: impl.Menu{At: 3, Num: 3, Digits: "2"}, Ticks: someTicks(3), Refused: 8}
		places := append(placesInPump(&d.Pump), &d.Guard.Alarm, &d.Guard.Past[0], &d.Guard.Past[1], &d.Menu.At, &d.Menu.Num, &d.Menu.Den, &d.Ticks[0].Pulses, &d.Ticks[2].State, &d.Refused)
		for _, one := range places {
			kept := *one
			for _, n := range numbers {
				*one = n
				wantDeviceOk(t, d, tellDeviceOk(d))
				wantTick(t, d, in, tellTick(d, in))
				wantTick(t, d, impl.In{}, tellTick(d, impl.In{}))
			}
			*one = kept
		}
	}
}
