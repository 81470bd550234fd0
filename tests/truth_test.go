package tests

import (
	"fmt"
	"math"
	"math/big"
	"slices"
	"strings"
	"testing"

	"loop.example/g00200/impl"
)

// givingTicks have these pulses, and nothing else.
func givingTicks(pulses ...int) []impl.Tick {
	var out []impl.Tick
	for _, n := range pulses {
		out = append(out, impl.Tick{Pulses: n})
	}
	return out
}

func alarmTicks(alarms ...int) []impl.Tick {
	var out []impl.Tick
	for _, bits := range alarms {
		out = append(out, impl.Tick{Alarm: bits})
	}
	return out
}

func shownTicks(list []impl.Tick) string {
	return fmt.Sprintf("%d ticks %.600s", len(list), fmt.Sprint(list))
}

func shownIns(ins []impl.In) string {
	var out strings.Builder
	for _, in := range ins[:min(len(ins), 20)] {
		out.WriteString(shownIn(in))
	}
	return fmt.Sprintf("%d inputs %s", len(ins), out.String())
}

// sumOfPulses works without a highest number of its own, so that nothing goes round in it.
func sumOfPulses(list []impl.Tick) *big.Int {
	sum := new(big.Int)
	for _, tick := range list {
		sum.Add(sum, big.NewInt(int64(tick.Pulses)))
	}
	return sum
}

func tellTotal(list []impl.Tick) int {
	return int(held(sumOfPulses(list)).Int64())
}

// tellWithin goes from the end of the list to its beginning: at each end of a span that is whole it lets one tick go.
func tellWithin(list []impl.Tick) bool {
	most, sum := big.NewInt(30), new(big.Int)
	for at := len(list) - 1; at >= 0; at-- {
		sum.Add(sum, big.NewInt(int64(list[at].Pulses)))
		if at+10 < len(list) {
			sum.Sub(sum, big.NewInt(int64(list[at+10].Pulses)))
		}
		if sum.Cmp(most) > 0 {
			return false
		}
	}
	return true
}

func tellStops(list []impl.Tick) bool {
	return !slices.ContainsFunc(list, func(tick impl.Tick) bool { return tick.Alarm != 0 && tick.Pulses != 0 })
}

// lacks tells whether there is a bit in must, of all that an int has, that isn't in bits.
func lacks(bits int, must int) bool {
	for place := range 64 {
		if must>>place&1 == 1 && bits>>place&1 == 0 {
			return true
		}
	}
	return false
}

func tellLatched(list []impl.Tick, ins []impl.In) bool {
	if len(list) != len(ins) {
		return false
	}
	menu := topMenu()
	for i, in := range ins {
		next, orders := tellPressAll(menu, in.Keys)
		menu = next
		linked, _ := tellOrder(in.Link)
		isSeen := linked == orderSeen || slices.Contains(orders, orderSeen)
		if lacks(list[i].Alarm, in.Bits) || i > 0 && !isSeen && lacks(list[i].Alarm, list[i-1].Alarm) {
			return false
		}
	}
	return true
}

func wantWithin(t *testing.T, list []impl.Tick, want bool) {
	t.Helper()
	if got := impl.WithinLimits(list); got != want {
		t.Fatalf("WithinLimits = %v of %s", got, shownTicks(list))
	}
	if tellWithin(list) != want {
		t.Fatalf("it is told in another way of %s", shownTicks(list))
	}
}

func wantStops(t *testing.T, list []impl.Tick, want bool) {
	t.Helper()
	if got := impl.StopsOnAlarm(list); got != want {
		t.Fatalf("StopsOnAlarm = %v of %s", got, shownTicks(list))
	}
}

func wantTotal(t *testing.T, list []impl.Tick, want int) {
	t.Helper()
	if got := impl.TotalOf(list); got != want {
		t.Fatalf("TotalOf = %d, want %d, of %s", got, want, shownTicks(list))
	}
}

func wantLatched(t *testing.T, what string, list []impl.Tick, ins []impl.In, want bool) {
	t.Helper()
	if got := impl.Latched(list, ins); got != want {
		t.Fatalf("%s: Latched = %v of %s, and %s", what, got, shownTicks(list), shownIns(ins))
	}
}

// wantTicksAsTold asks for all that is told of ticks alone.
func wantTicksAsTold(t *testing.T, list []impl.Tick) {
	t.Helper()
	wantWithin(t, list, tellWithin(list))
	wantStops(t, list, tellStops(list))
	wantTotal(t, list, tellTotal(list))
}

func TestWithinLimitsOfFewTicks(t *testing.T) {
	wantWithin(t, nil, true)
	wantWithin(t, []impl.Tick{}, true)
	for _, n := range []int{0, 1, 29, 30, -1, -30, -31, -impl.Big, math.MinInt} {
		wantWithin(t, givingTicks(n), true)
	}
	for _, n := range []int{31, 32, 100, 1 << 32, impl.Big, impl.Big + 1, math.MaxInt} {
		wantWithin(t, givingTicks(n), false)
	}
	for _, pulses := range [][]int{{30, 0}, {0, 30}, {15, 15}, {10, 10, 10}, {1, 2, 3, 4, 5, 6, 7, 2}, evenPast(9, 3), evenPast(10, 3), {30, 0, 0, 0, 0, 0, 0, 0, 0, 0}, {0, 0, 0, 0, 0, 0, 0, 0, 0, 30}} {
		wantWithin(t, givingTicks(pulses...), true)
		for at := range pulses {
			more := slices.Clone(pulses)
			more[at]++
			// Of nine times 3 there are three to come.
			wantWithin(t, givingTicks(more...), len(pulses) == 9)
		}
	}
	wantWithin(t, givingTicks(append(evenPast(8, 3), 6)...), true)
	wantWithin(t, givingTicks(append(evenPast(8, 3), 7)...), false)
}

// What a tick tells beside its pulses is not looked at.
func TestWithinLimitsLooksAtPulsesAlone(t *testing.T) {
	for _, n := range []int{0, 1, 15, 31, -1, math.MaxInt, math.MinInt} {
		wantWithin(t, []impl.Tick{{Pulses: 30, Alarm: n, State: n}, {Alarm: n, State: n}}, true)
		wantWithin(t, []impl.Tick{{Pulses: 31, Alarm: n, State: n}}, false)
		wantTotal(t, []impl.Tick{{Pulses: 30, Alarm: n, State: n}, {Alarm: n, State: n}}, 30)
	}
}

// One tick at each place of a list of each length.
func TestWithinLimitsOfOneTickAtEachPlace(t *testing.T) {
	for many := 1; many <= 35; many++ {
		for at := range many {
			list := make([]impl.Tick, many)
			list[at].Pulses = 30
			wantWithin(t, list, true)
			list[at].Pulses = 31
			wantWithin(t, list, false)
		}
	}
}

// Two ticks are of one span when the other one is nine behind the one, and no more when it is ten behind.
func TestWithinLimitsOfTwoTicks(t *testing.T) {
	for many := 2; many <= 35; many++ {
		for at := range many {
			for behind := 1; at+behind < many; behind++ {
				list := make([]impl.Tick, many)
				list[at].Pulses, list[at+behind].Pulses = 15, 15
				wantWithin(t, list, true)
				list[at+behind].Pulses = 16
				wantWithin(t, list, behind >= 10)
				list[at].Pulses, list[at+behind].Pulses = 30, 1
				wantWithin(t, list, behind >= 10)
				list[at].Pulses, list[at+behind].Pulses = 30, 30
				wantWithin(t, list, behind >= 10)
			}
		}
	}
}

// A span that is full, and the next one, which begins one later.
func TestWithinLimitsOfFullSpans(t *testing.T) {
	for many := 10; many <= 45; many++ {
		list := givingTicks(evenPast(many, 3)...)
		wantWithin(t, list, true)
		for at := range list {
			list[at].Pulses = 4
			wantWithin(t, list, false)
			list[at].Pulses = 2
			wantWithin(t, list, true)
			list[at].Pulses = 3
		}
	}
	for _, c := range []struct {
		pulses []int
		want   bool
	}{
		{append(evenPast(10, 3), 3), true},
		{append(evenPast(10, 3), 4), false},
		{append([]int{0}, append(evenPast(9, 3), 6)...), false},
		{append([]int{3}, append(evenPast(9, 3), 3)...), true},
		{append([]int{6, 0}, evenPast(8, 3)...), true},
		{append([]int{6, 0}, append(evenPast(8, 3), 6)...), true},
		{append([]int{6, 0}, append(evenPast(8, 3), 7)...), false},
		{append([]int{30}, append(evenPast(9, 0), 30)...), true},
		{append([]int{30}, append(evenPast(8, 0), 30)...), false},
		{append([]int{0, 30}, append(evenPast(9, 0), 30)...), true},
	} {
		wantWithin(t, givingTicks(c.pulses...), c.want)
		wantWithin(t, append(make([]impl.Tick, 20), givingTicks(c.pulses...)...), c.want)
		wantWithin(t, append(givingTicks(c.pulses...), make([]impl.Tick, 20)...), c.want)
	}
}

// Of pulses below 0 fewer ticks may have more together; they are asked of at the end of the list alone.
func TestWithinLimitsOfPulsesBelow0(t *testing.T) {
	for _, c := range []struct {
		what   string
		pulses []int
		want   bool
	}{
		{"one tick at the end", []int{-1, 31}, false},
		{"no more at the end than 30", []int{-1, 30}, true},
		{"more at the beginning", []int{31, -1}, true},
		{"more at the beginning, of just a span", append(append([]int{31}, evenPast(8, 0)...), -1), true},
		{"more at the beginning, of a span and one more", append(append([]int{31}, evenPast(9, 0)...), -1), false},
		{"more in the middle of a short list", []int{-9, 31, -1}, true},
		{"far more in the middle of a short list", []int{-9, 90, -60}, true},
		{"too much in the middle of a short list", []int{-9, 91, -60}, false},
		{"at the end of a span", append(append([]int{-50}, evenPast(8, 0)...), 50), false},
		{"at the end of a long list", append(make([]int, 20), -50, 50), false},
		{"nine at the end, one ahead of them", append([]int{0, 0, -4}, evenPast(9, 4)...), false},
		{"nine at the end, which are full", append([]int{3, -3}, append(evenPast(8, 3), 6)...), true},
		{"nine at the end, which are too full, but no whole span", append([]int{3, -3}, append(evenPast(8, 3), 7)...), false},
		{"one ahead of a full span", append([]int{-5}, append(evenPast(9, 3), 3)...), true},
		{"one ahead of a span that is too full", append([]int{-5}, append(evenPast(9, 3), 4)...), false},
		{"all below 0", evenPast(40, -7), true},
		{"by turns", []int{31, -31, 31, -31, 31, -31, 31, -31, 31, -31, 31, -31}, true},
		{"by turns, the last one above", []int{31, -31, 31, -31, 31, -31, 31, -31, 31, -31, 31}, false},
	} {
		if got := impl.WithinLimits(givingTicks(c.pulses...)); got != c.want {
			t.Errorf("%s: WithinLimits = %v", c.what, got)
		}
		wantWithin(t, givingTicks(c.pulses...), c.want)
	}
}

// No sum goes round, and none loses what is beyond Big on its way.
func TestWithinLimitsOfGreatPulses(t *testing.T) {
	const most, least, stays = math.MaxInt, math.MinInt, impl.Big
	for _, c := range []struct {
		pulses []int
		want   bool
	}{
		{[]int{most, most}, false}, {[]int{most, 1}, false}, {[]int{most, 2}, false}, {[]int{1, most}, false}, {[]int{most, most, 2}, false}, {[]int{most, most, 3}, false},
		{[]int{least, least}, true}, {[]int{least, -1}, true}, {[]int{-1, least}, true}, {[]int{least, least, -1}, true}, {evenPast(10, least), true}, {evenPast(11, least), true},
		{[]int{most, least}, true}, {[]int{least, most}, false}, {[]int{most, least, 30}, true}, {[]int{most, least, 31}, false}, {[]int{31, most, least}, true}, {[]int{32, most, least}, false},
		{[]int{most, most, least}, false}, {[]int{most, most, least, least}, true}, {[]int{most, most, least, least, 2, 30}, false},
		{[]int{stays, stays, -stays}, false}, {[]int{stays, -stays}, true}, {[]int{2 * stays, -stays}, false}, {[]int{stays, stays, -2 * stays}, true}, {[]int{31, stays, -stays}, false}, {[]int{30, stays, -stays}, true},
		{evenPast(4, 1<<62), false}, {evenPast(8, 1<<61), false}, {append(evenPast(8, 1<<61), 0, 0), false}, {evenPast(40, 1<<61), false}, {evenPast(16, 1<<60), false}, {evenPast(2, -1<<63), true},
		{append(evenPast(20, 0), most, least), false}, {append(evenPast(20, 0), least, most), false}, {append(evenPast(20, 0), least, most, least), true},
		{append([]int{least}, append(evenPast(9, 0), 31)...), false}, {[]int{1 << 32, -1 << 32}, true}, {[]int{1<<32 + 31, -1 << 32}, false},
	} {
		wantWithin(t, givingTicks(c.pulses...), c.want)
		wantTicksAsTold(t, givingTicks(c.pulses...))
	}
}

func TestStopsOnAlarm(t *testing.T) {
	wantStops(t, nil, true)
	wantStops(t, []impl.Tick{}, true)
	alarms := append(wrongBits(), 1, 2, 4, 8, 15, 6, 9)
	pulses := []int{1, 2, 30, 31, -1, -30, 1 << 32, -1 << 32, impl.Big, math.MaxInt, math.MinInt}
	for _, bits := range alarms {
		if bits == 0 {
			continue
		}
		wantStops(t, []impl.Tick{{Alarm: bits}}, true)
		for _, n := range pulses {
			wantStops(t, []impl.Tick{{Pulses: n}}, true)
			wantStops(t, []impl.Tick{{Pulses: n}, {Alarm: bits}}, true)
			wantStops(t, []impl.Tick{{Alarm: bits}, {Pulses: n}}, true)
			for state := -1; state <= 4; state++ {
				wantStops(t, []impl.Tick{{Pulses: n, Alarm: bits, State: state}}, false)
				wantStops(t, []impl.Tick{{Pulses: n, State: state}, {Alarm: bits, State: state}}, true)
			}
		}
	}
}

func TestStopsOnAlarmAtEachPlace(t *testing.T) {
	for many := 1; many <= 30; many++ {
		for at := range many {
			list := slices.Repeat([]impl.Tick{{Pulses: 3}}, many)
			list[at] = impl.Tick{Alarm: 4}
			wantStops(t, list, true)
			list[at] = impl.Tick{Pulses: 1, Alarm: 4}
			wantStops(t, list, false)
			list = slices.Repeat([]impl.Tick{{Alarm: 4}}, many)
			list[at] = impl.Tick{Pulses: 3}
			wantStops(t, list, true)
			list[at] = impl.Tick{Pulses: 3, Alarm: 8}
			wantStops(t, list, false)
		}
	}
	// Two that would make up for each other are still two.
	wantStops(t, []impl.Tick{{Pulses: 3, Alarm: 4}, {Pulses: -3, Alarm: 4}}, false)
	wantStops(t, []impl.Tick{{Pulses: 3, Alarm: 4}, {Pulses: 3, Alarm: -4}}, false)
}

func TestTotalOf(t *testing.T) {
	const most, least, stays = math.MaxInt, math.MinInt, impl.Big
	for _, c := range []struct {
		pulses []int
		want   int
	}{
		{nil, 0}, {[]int{}, 0}, {[]int{0}, 0}, {[]int{1}, 1}, {[]int{30}, 30}, {[]int{-7}, -7}, {[]int{1, 2, 3}, 6}, {[]int{3, -5}, -2}, {[]int{5, -5}, 0}, {[]int{2, 0, 0, 2, 2}, 6},
		{evenPast(200, 3), 600}, {evenPast(5000, 7), 35000}, {evenPast(5000, -7), -35000},
		{[]int{stays}, stays}, {[]int{stays - 1, 1}, stays}, {[]int{stays - 2, 1}, stays - 1}, {[]int{-stays}, -stays}, {[]int{1 - stays, -1}, -stays}, {[]int{2 - stays, -1}, 1 - stays},
		// Beyond these, numbers stay.
		{[]int{stays, 1}, stays}, {[]int{1, stays}, stays}, {[]int{stays + 1}, stays}, {[]int{stays, stays}, stays}, {[]int{-stays, -1}, -stays}, {[]int{-1 - stays}, -stays}, {[]int{-stays, -stays}, -stays},
		{[]int{most}, stays}, {[]int{least}, -stays}, {[]int{most, most}, stays}, {[]int{most, 1}, stays}, {[]int{most, most, 2}, stays}, {[]int{least, least}, -stays}, {[]int{least, -1}, -stays},
		{evenPast(4, 1<<62), stays}, {evenPast(8, 1<<62), stays}, {evenPast(2, -1<<63), -stays}, {evenPast(4, -1<<63), -stays}, {evenPast(1000, most), stays}, {evenPast(1000, least), -stays},
		// What is taken back is taken back from all that there was.
		{[]int{stays, 5, -5}, stays}, {[]int{stays, 5, -6}, stays - 1}, {[]int{stays, stays, -stays}, stays}, {[]int{-stays, -5, 7}, 2 - stays}, {[]int{2 * stays, 7, -2 * stays}, 7},
		{[]int{most, least}, -1}, {[]int{least, most}, -1}, {[]int{most, 5, least}, 4}, {[]int{most, most, least, least}, -2}, {[]int{most, most, 2, least, least}, 0}, {[]int{least, least, most, most, 9}, 7},
	} {
		wantTotal(t, givingTicks(c.pulses...), c.want)
		if tellTotal(givingTicks(c.pulses...)) != c.want {
			t.Errorf("it is told in another way of %.90v", c.pulses)
		}
	}
}

func TestTruthsOfAllShortLists(t *testing.T) {
	numbers := []int{math.MinInt, -impl.Big, -31, -1, 0, 1, 30, 31, impl.Big, math.MaxInt}
	for size := range 5 {
		listsOf(size, numbers, func(pulses []int) {
			wantTicksAsTold(t, givingTicks(pulses...))
		})
	}
	for size := range 4 {
		listsOf(size, []int{0, 1, -1, 16, math.MinInt}, func(alarms []int) {
			listsOf(size, []int{0, 2, -2}, func(pulses []int) {
				list := alarmTicks(alarms...)
				for i, n := range pulses {
					list[i].Pulses = n
				}
				wantTicksAsTold(t, list)
			})
		})
	}
}

func TestTruthsOfDrawnLists(t *testing.T) {
	d := drawer(190)
	within, stopped := 0, 0
	for range 40000 {
		list := make([]impl.Tick, d.below(36))
		// Some lists are about a full span, some are of any numbers.
		edges := []int{0, 2, 3, 3, 3, 3, 3, 3, 3, 4}
		switch d.below(4) {
		case 0:
			edges = []int{0, 0, 0, 0, 0, 0, 0, 15, 15, 16, 30}
		case 1:
			edges = []int{math.MinInt, -impl.Big, -31, -1, 0, 0, 0, 0, 30, 31, impl.Big, 1 << 62, math.MaxInt}
		}
		for i := range list {
			list[i].Pulses = edges[d.below(len(edges))]
			if d.below(30) == 0 {
				list[i] = impl.Tick{Alarm: d.below(20) - 2, Pulses: d.below(2) * d.below(2)}
			}
		}
		wantTicksAsTold(t, list)
		if tellWithin(list) {
			within++
		}
		if tellStops(list) {
			stopped++
		}
	}
	if min(within, stopped) < 4000 || max(within, stopped) > 39000 {
		t.Errorf("%d of the lists were within, %d stopped", within, stopped)
	}
}

func TestLatchedOfLists(t *testing.T) {
	for ticks := range 12 {
		for ins := range 12 {
			wantLatched(t, "nothing", make([]impl.Tick, ticks), make([]impl.In, ins), ticks == ins)
			wantLatched(t, "the same alarm", slices.Repeat(alarmTicks(4), ticks), slices.Repeat([]impl.In{feltIn(4)}, ins), ticks == ins)
		}
	}
	wantLatched(t, "none", nil, nil, true)
	wantLatched(t, "none", []impl.Tick{}, nil, true)
	wantLatched(t, "none", nil, []impl.In{}, true)
	wantLatched(t, "a tick too many", make([]impl.Tick, 200), make([]impl.In, 199), false)
	wantLatched(t, "an input too many", make([]impl.Tick, 200), make([]impl.In, 201), false)
	wantLatched(t, "as many", make([]impl.Tick, 2000), make([]impl.In, 2000), true)
}

// All alarms, with all that is felt in the tick, and all alarms ahead of it, seen and not.
func TestLatchedOfAllBits(t *testing.T) {
	for bits := range 16 {
		for alarm := range 16 {
			one := alarmTicks(alarm)
			wantLatched(t, "one tick", one, []impl.In{feltIn(bits)}, alarm|bits == alarm)
			wantLatched(t, "one tick, seen", one, []impl.In{{Bits: bits, Keys: "s"}}, alarm|bits == alarm)
			for ahead := range 16 {
				two := alarmTicks(ahead, alarm)
				wantLatched(t, "two ticks", two, []impl.In{{}, feltIn(bits)}, alarm|bits|ahead == alarm)
				for _, in := range []impl.In{{Bits: bits, Keys: "s"}, {Bits: bits, Link: tellOrderText(orderSeen)}} {
					wantLatched(t, "two ticks, seen", two, []impl.In{{}, in}, alarm|bits == alarm)
					wantLatched(t, "two ticks, the first one seen", two, []impl.In{in, {}}, ahead|bits == ahead && alarm|ahead == alarm)
				}
			}
		}
	}
}

// toldOver is what is told in ticks one behind the other: whether the last of them may let the alarm of all the others go.
type toldOver struct {
	what string
	ins  []impl.In
	seen bool
}

func linked(text string) impl.In {
	return impl.In{Link: text}
}

func turnedSeen() string {
	text := []byte(tellOrderText(orderSeen))
	text[1] ^= 1
	return string(text)
}

func ticksThatAreTold() []toldOver {
	nothing := impl.In{}
	seen := linkedIn(orderSeen)
	typed := func(keys ...string) []impl.In {
		var out []impl.In
		for _, one := range keys {
			out = append(out, typedIn(one))
		}
		return out
	}
	return []toldOver{
		{"nothing", []impl.In{nothing}, false},
		{"a key", typed("s"), true},
		{"a key behind others", typed("xpgs"), true},
		{"a key ahead of others", typed("sxpg"), true},
		{"a key behind an order", typed("b2\n1\n9\ns"), true},
		{"a key ahead of an order", typed("so5\n"), true},
		{"a key ahead of an order that isn't ended", typed("sb2"), true},
		{"a key behind a clear", typed("b2cs"), true},
		{"keys of no text", typed("\xffs\xc3"), true},
		{"the other keys", typed("pgxcbo\n019"), false},
		{"a great letter", typed("S"), false},
		{"a key within an order", typed("bs"), false},
		{"a key within a bolus", typed("o5s"), false},
		{"a key within an order, which is ended", typed("b2\n1s\n9\n"), false},
		{"a link", []impl.In{seen}, true},
		{"a link and a key", []impl.In{{Keys: "s", Link: seen.Link}}, true},
		{"a link beside other keys", []impl.In{{Keys: "xb2", Link: seen.Link}}, true},
		{"a key beside another link", []impl.In{{Keys: "s", Link: tellOrderText(orderStop)}}, true},
		{"a key beside a link that is none", []impl.In{{Keys: "s", Link: "?"}}, true},
		{"a link that is none", []impl.In{linked("s")}, false},
		{"a link that is not sealed", []impl.In{linked(bodyOf(orderSeen))}, false},
		{"a link with a byte turned", []impl.In{linked(turnedSeen())}, false},
		{"a link with a byte more", []impl.In{linked(seen.Link + "s")}, false},
		{"a link with a byte less", []impl.In{linked(seen.Link[:len(seen.Link)-1])}, false},
		{"a link that is sealed and not right", []impl.In{linked(withSum(bodyOf(impl.Order{Kind: 5, Num: 1})))}, false},
		{"another link", []impl.In{linkedIn(orderGo)}, false},
		{"a key within an order, beside a link that is none", []impl.In{{Keys: "os", Link: "s"}}, false},
		{"in the tick ahead alone", []impl.In{typedIn("s"), nothing}, false},
		{"by a link in the tick ahead alone", []impl.In{seen, nothing}, false},
		{"an order that goes on", typed("b", "s"), false},
		{"a bolus that goes on", typed("o5", "s"), false},
		{"an order that goes on, and a link", []impl.In{typedIn("b"), seen}, true},
		{"an order that is ended by the key ahead", typed("b2\n1\n", "9\ns"), true},
		{"an order that is ended behind the key", typed("b2\n1\n", "9s\n"), false},
		{"an order of many ticks", typed("b", "2\n", "1", "\n", "", "9", "\n", "s"), true},
		{"an order of many ticks, which isn't ended", typed("b", "2\n", "1", "\n", "", "9", "s"), false},
		{"an order that is cleared in the tick ahead", typed("b2", "c", "s"), true},
		{"an order that is cleared ahead of the key", typed("b2", "cs"), true},
		{"a bolus that is ended in the tick ahead", typed("o5\n", "s"), true},
		{"an order that comes to none", typed("b0\n", "0\n0\n", "s"), true},
		{"a bolus within which a link comes", []impl.In{{Keys: "o", Link: seen.Link}, typedIn("s")}, false},
		{"all that is typed at once", typed("ssss"), true},
	}
}

func TestLatchedOfWhatIsTold(t *testing.T) {
	for _, c := range ticksThatAreTold() {
		for _, alarm := range []int{1, 2, 4, 8, 6, 15} {
			list := slices.Repeat(alarmTicks(alarm), len(c.ins)+1)
			ins := append([]impl.In{{}}, c.ins...)
			wantLatched(t, c.what+": the alarm stays", list, ins, true)
			list[len(list)-1].Alarm = 0
			wantLatched(t, c.what+": the alarm goes", list, ins, c.seen)
			list[len(list)-1].Alarm = alarm &^ (alarm & -alarm)
			wantLatched(t, c.what+": a bit of the alarm goes", list, ins, c.seen)
			list[len(list)-1].Alarm = 16
			wantLatched(t, c.what+": another alarm comes", list, ins, c.seen)
			// What is felt in the tick stays, seen or not.
			ins[len(ins)-1].Bits = alarm
			list[len(list)-1].Alarm = 0
			wantLatched(t, c.what+": what is felt goes", list, ins, false)
			list[len(list)-1].Alarm = alarm
			wantLatched(t, c.what+": what is felt stays", list, ins, true)
			wantLatched(t, c.what+": a tick behind it loses all", append(list, impl.Tick{}), append(ins, impl.In{}), false)
			wantLatched(t, c.what+": a tick behind it has all", append(list, list[0]), append(ins, impl.In{}), true)
		}
	}
}

// An alarm that is lost at any place is lost, whatever stands around it.
func TestLatchedAtEachPlace(t *testing.T) {
	for many := 2; many <= 25; many++ {
		for at := 1; at < many; at++ {
			list := slices.Repeat(alarmTicks(6), many)
			ins := make([]impl.In, many)
			for behind := at; behind < many; behind++ {
				list[behind].Alarm = 4
			}
			wantLatched(t, "a bit goes for good", list, ins, false)
			ins[at] = typedIn("s")
			wantLatched(t, "a bit goes for good, seen", list, ins, true)
			ins[at-1], ins[at] = typedIn("s"), impl.In{}
			wantLatched(t, "a bit goes for good, seen a tick too early", list, ins, false)
			ins[at-1] = impl.In{}
			if at+1 < many {
				ins[at+1] = typedIn("s")
				wantLatched(t, "a bit goes for good, seen a tick too late", list, ins, false)
			}
			clear(ins)
			list = slices.Repeat(alarmTicks(6), many)
			list[at].Alarm = 7
			wantLatched(t, "a bit comes and goes", list, ins, at == many-1)
			clear(list)
			ins[at].Bits = 2
			wantLatched(t, "what is felt isn't there", list, ins, false)
			list[at].Alarm = 2
			wantLatched(t, "what is felt goes", list, ins, at == many-1)
		}
	}
}

// No sentence asks for bits that are right: a bit that is felt, whichever, is there or isn't.
func TestLatchedOfBitsThatAreNotRight(t *testing.T) {
	for _, bits := range append(wrongBits(), 0, 1, 15) {
		for _, alarm := range append(wrongBits(), 0, 1, 15) {
			two, ins := alarmTicks(bits, alarm), []impl.In{{}, feltIn(bits)}
			wantLatched(t, "bits that are felt", two, ins, tellLatched(two, ins))
			ins = make([]impl.In, 2)
			wantLatched(t, "an alarm that is held", two, ins, !lacks(alarm, bits))
			ins[1] = typedIn("s")
			wantLatched(t, "an alarm that is seen", two, ins, true)
		}
	}
	wantLatched(t, "a fifth bit", alarmTicks(16, 16), []impl.In{feltIn(16), {}}, true)
	wantLatched(t, "a fifth bit that isn't there", alarmTicks(15), []impl.In{feltIn(16)}, false)
	wantLatched(t, "a fifth bit that goes", alarmTicks(16, 15), make([]impl.In, 2), false)
	wantLatched(t, "below 0", alarmTicks(-1, -1), []impl.In{feltIn(math.MinInt), feltIn(15)}, true)
	wantLatched(t, "below 0, not there", alarmTicks(math.MaxInt), []impl.In{feltIn(math.MinInt)}, false)
}

// Nor does one ask for inputs that are right: keys and links of any length are heard.
func TestLatchedOfInsThatAreNotRight(t *testing.T) {
	for _, c := range []toldOver{
		{"many keys", []impl.In{typedIn(strings.Repeat("x", 300) + "s")}, true},
		{"many keys within an order", []impl.In{typedIn("b" + strings.Repeat("5", 300) + "s")}, false},
		{"many keys ahead", []impl.In{typedIn(strings.Repeat("\n", 70000) + "o"), typedIn("s")}, false},
		{"a long link", []impl.In{linked(strings.Repeat(tellOrderText(orderSeen), 9))}, false},
		{"a long link and a key", []impl.In{{Keys: "s", Link: strings.Repeat("z", 70000)}}, true},
	} {
		list := slices.Repeat(alarmTicks(5), len(c.ins)+1)
		list[len(list)-1].Alarm = 1
		wantLatched(t, c.what, list, append([]impl.In{{}}, c.ins...), c.seen)
	}
	for _, wrong := range wrongIns() {
		for _, alarm := range []int{0, 1, 15, -1} {
			list, ins := alarmTicks(3, alarm, 0), []impl.In{{}, wrong, {}}
			wantLatched(t, "an input that is not right", list, ins, tellLatched(list, ins))
		}
	}
}

func TestLatchedOfDrawnLists(t *testing.T) {
	d := drawer(191)
	held, lost := 0, 0
	for range 40000 {
		list, ins := make([]impl.Tick, 1+d.below(9)), make([]impl.In, 1+d.below(9))
		if d.below(8) > 0 {
			ins = make([]impl.In, len(list))
		}
		alarm := 0
		for i := range min(len(list), len(ins)) {
			ins[i] = drawnIn(&d)
			if d.below(3) == 0 {
				ins[i].Bits = d.below(18) - 1
			}
			alarm |= ins[i].Bits
			if d.below(12) == 0 {
				alarm = d.below(18) - 1
			}
			list[i] = impl.Tick{Pulses: d.below(5), Alarm: alarm, State: d.below(4)}
		}
		want := tellLatched(list, ins)
		wantLatched(t, "a drawn list", list, ins, want)
		if want {
			held++
		} else {
			lost++
		}
	}
	if min(held, lost) < 5000 {
		t.Errorf("%d of the lists held, %d lost an alarm", held, lost)
	}
}
