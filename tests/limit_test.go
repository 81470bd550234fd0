package tests

import (
	"math"
	"slices"
	"sync"
	"testing"

	"loop.example/g00200/impl"
)

func guardOf(alarm int, past ...int) impl.Guard {
	return impl.Guard{Past: past, Alarm: alarm}
}

// evenPast has n in each of so many ticks.
func evenPast(many int, n int) []int {
	return slices.Repeat([]int{n}, many)
}

func rightPasts() [][]int {
	return [][]int{
		nil, {}, {0}, {1}, {29}, {30}, {0, 30}, {30, 0}, {1, 29}, {29, 1}, {10, 10, 10}, {1, 2, 3, 4, 5}, {5, 4, 3, 2, 1},
		{1, 2, 3, 4, 5, 6, 7}, {1, 2, 3, 4, 5, 6, 7, 2}, {7, 6, 5, 4, 3, 2, 1, 2}, {1, 2, 3, 4, 5, 6, 7, 0, 1}, {1, 2, 3, 4, 5, 6, 7, 1, 1},
		{0, 0, 0, 0, 0, 0, 0, 30}, {30, 0, 0, 0, 0, 0, 0, 0}, {0, 0, 0, 0, 0, 0, 0, 0, 30}, {30, 0, 0, 0, 0, 0, 0, 0, 0}, {0, 0, 0, 0, 30, 0, 0, 0, 0},
		{0, 1, 0, 2, 0, 3, 0, 4, 0}, evenPast(8, 0), evenPast(9, 0), evenPast(8, 3), evenPast(9, 3), {4, 4, 4, 3, 3, 3, 3, 3, 3}, {6, 6, 6, 6, 6},
	}
}

// wrongPasts are too long, have one that is too low or too high, or are too much together; the sum of some is right.
func wrongPasts() [][]int {
	return [][]int{
		evenPast(10, 0), evenPast(10, 3), evenPast(11, 0), evenPast(20, 1), evenPast(300, 0), evenPast(5000, 0),
		{0, 0, 0, 0, 0, 0, 0, 0, 0, 1}, {1, 0, 0, 0, 0, 0, 0, 0, 0, 0}, {30, 0, 0, 0, 0, 0, 0, 0, 0, 0}, evenPast(10, -1), evenPast(10, math.MaxInt),
		{31}, {32}, {100}, {-1}, {-30}, {-31}, {0, 31}, {31, 0}, {0, 0, 0, 0, 0, 0, 0, 0, 31}, {0, 0, 0, 0, 0, 0, 0, 0, -1}, {-1, 0, 0, 0, 0, 0, 0, 0, 0},
		{-1, 1}, {1, -1}, {31, -1}, {-1, 31}, {31, -31}, {-1, 31, 0}, {30, -1, 1}, {15, -5, 20}, {0, 0, 0, 0, -1, 0, 0, 0, 0},
		{30, 1}, {1, 30}, {16, 15}, {15, 16}, {30, 30}, {10, 10, 10, 1}, {11, 10, 10}, {0, 0, 0, 0, 0, 0, 0, 1, 30}, {30, 0, 0, 0, 0, 0, 0, 0, 1},
		{4, 4, 4, 4, 3, 3, 3, 3, 3}, {3, 3, 3, 3, 3, 3, 3, 3, 7}, evenPast(9, 4), evenPast(9, 30),
		{math.MaxInt}, {math.MinInt}, {math.MaxInt, 1}, {1, math.MaxInt}, {math.MaxInt, math.MaxInt}, {math.MaxInt, math.MaxInt, 2}, {math.MaxInt, math.MaxInt, 30},
		{math.MinInt, math.MinInt}, {math.MinInt, 0, math.MinInt}, {math.MaxInt, math.MinInt}, {math.MaxInt, math.MinInt, 1}, {math.MinInt, math.MaxInt, 30},
		{math.MaxInt, 30, 30}, {30, math.MaxInt, 5, math.MaxInt}, {30, math.MinInt}, {math.MinInt, 30, 1},
		{1 << 62, 1 << 62, 1 << 62, 1 << 62}, {1 << 62, 1 << 62, 1 << 62, 1 << 62, 30}, {1 << 32}, {1<<32 + 1}, {-1 << 32}, {1 << 8}, {1<<8 + 5}, {1 << 16, 5},
	}
}

func rightGuards() []impl.Guard {
	var out []impl.Guard
	for _, past := range rightPasts() {
		for bits := range 16 {
			out = append(out, guardOf(bits, past...))
		}
	}
	return out
}

func wrongGuards() []impl.Guard {
	var out []impl.Guard
	for _, past := range wrongPasts() {
		for _, bits := range []int{0, 1, 8, 15, 16, -1} {
			out = append(out, guardOf(bits, past...))
		}
	}
	for _, bits := range wrongBits() {
		for _, past := range [][]int{nil, {0}, {30}, {1, 2, 3}, evenPast(9, 3)} {
			out = append(out, guardOf(bits, past...))
		}
	}
	return out
}

func tellPastOk(past []int) bool {
	if len(past) > 9 {
		return false
	}
	// What may still come is counted down, so that no sum is made of any number.
	room := 30
	for _, n := range past {
		if n < 0 || n > room {
			return false
		}
		room -= n
	}
	return true
}

func tellGuardOk(g impl.Guard) bool {
	return tellPastOk(g.Past) && 0 <= g.Alarm && g.Alarm <= 15
}

// tellRoom sums from the oldest on; a sum that is too long goes round.
func tellRoom(g impl.Guard) int {
	sum := 0
	for _, n := range slices.Backward(g.Past) {
		sum += n
	}
	return 30 - sum
}

func tellFeel(g impl.Guard, bits int, seen bool) impl.Guard {
	if !tellGuardOk(g) || bits < 0 || bits > 15 {
		return g
	}
	alarm := 0
	for _, one := range fourSenses() {
		if tellHas(bits, one) || !seen && tellHas(g.Alarm, one) {
			alarm += one
		}
	}
	return guardOf(alarm, g.Past...)
}

func tellAllow(g impl.Guard, n int) int {
	if !tellGuardOk(g) || g.Alarm > 0 {
		return 0
	}
	return max(min(n, tellRoom(g)), 0)
}

func tellPass(g impl.Guard, n int) impl.Guard {
	if !tellGuardOk(g) {
		return g
	}
	past := append([]int{max(min(n, tellRoom(g)), 0)}, g.Past...)
	return guardOf(g.Alarm, past[:min(len(past), 9)]...)
}

func sameGuard(a impl.Guard, b impl.Guard) bool {
	return a.Alarm == b.Alarm && slices.Equal(a.Past, b.Past)
}

func wantGuardOk(t *testing.T, g impl.Guard, want bool) {
	t.Helper()
	if got := impl.GuardOk(g); got != want {
		t.Errorf("GuardOk(%+v) = %v, want %v", g, got, want)
	}
}

func wantRoom(t *testing.T, g impl.Guard, want int) {
	t.Helper()
	if got := impl.RoomOf(g); got != want {
		t.Errorf("RoomOf(%+v) = %d, want %d", g, got, want)
	}
}

func wantFeel(t *testing.T, g impl.Guard, bits int, seen bool, want impl.Guard) {
	t.Helper()
	if got := impl.Feel(g, bits, seen); !sameGuard(got, want) {
		t.Errorf("Feel(%+v, %d, %v) = %+v, want %+v", g, bits, seen, got, want)
	}
}

func wantAllow(t *testing.T, g impl.Guard, n int, want int) {
	t.Helper()
	if got := impl.Allow(g, n); got != want {
		t.Errorf("Allow(%+v, %d) = %d, want %d", g, n, got, want)
	}
}

func wantPass(t *testing.T, g impl.Guard, n int, want impl.Guard) {
	t.Helper()
	if got := impl.Pass(g, n); !sameGuard(got, want) {
		t.Errorf("Pass(%+v, %d) = %+v, want %+v", g, n, got, want)
	}
}

// numbersToPass are around all the room that a guard may have, and far from it.
func numbersToPass() []int {
	out := []int{math.MinInt, math.MinInt + 1, math.MinInt + 30, -1 << 32, -31, -30, math.MaxInt - 30, math.MaxInt - 1, math.MaxInt, 1 << 32, 1<<32 + 1, 100, 256, 257}
	for n := -3; n <= 34; n++ {
		out = append(out, n)
	}
	return out
}

func TestConstantsOfGuards(t *testing.T) {
	if impl.Span != 10 || impl.SpanMost != 30 {
		t.Errorf("Span is %d, SpanMost %d", impl.Span, impl.SpanMost)
	}
}

func TestGuardOk(t *testing.T) {
	wantGuardOk(t, impl.Guard{}, true)
	for _, g := range rightGuards() {
		wantGuardOk(t, g, true)
	}
	for _, g := range wrongGuards() {
		wantGuardOk(t, g, false)
	}
}

func TestGuardOkOfSoManyTicks(t *testing.T) {
	for many := range 60 {
		wantGuardOk(t, guardOf(0, evenPast(many, 0)...), many <= 9)
		wantGuardOk(t, guardOf(0, append(evenPast(many, 0), 30)...), many <= 8)
		wantGuardOk(t, guardOf(0, append(evenPast(many, 0), 31)...), false)
		wantGuardOk(t, guardOf(0, append(evenPast(many, 1), 30-many)...), many <= 8)
		wantGuardOk(t, guardOf(0, append(evenPast(many, 1), 31-many)...), false)
	}
}

func TestGuardOkAtEachPlace(t *testing.T) {
	for many := 1; many <= 9; many++ {
		for place := range many {
			for _, n := range numbersToPass() {
				past := evenPast(many, 0)
				past[place] = n
				wantGuardOk(t, guardOf(0, past...), 0 <= n && n <= 30)
				past = evenPast(many, 2)
				past[place] = n
				wantGuardOk(t, guardOf(0, past...), 0 <= n && n <= 30-2*(many-1))
			}
		}
	}
}

func TestGuardOkOfNumbersWhoseSumGoesRound(t *testing.T) {
	numbers := []int{math.MinInt, math.MaxInt, 1 << 62, -1 << 62, 2, 30}
	for size := 1; size <= 5; size++ {
		listsOf(size, numbers, func(past []int) {
			wantGuardOk(t, guardOf(0, past...), tellPastOk(past))
			wantRoom(t, guardOf(0, past...), tellRoom(guardOf(0, past...)))
		})
	}
	// Sixteen times the sixteenth part of all ints is 0 again.
	wantGuardOk(t, guardOf(0, evenPast(16, 1<<60)...), false)
	wantGuardOk(t, guardOf(0, evenPast(8, 1<<61)...), false)
	wantGuardOk(t, guardOf(0, append(evenPast(8, 1<<61), 30)...), false)
}

func TestGuardOkOfAlarms(t *testing.T) {
	for bits := -40; bits <= 60; bits++ {
		wantGuardOk(t, guardOf(bits), 0 <= bits && bits <= 15)
		wantGuardOk(t, guardOf(bits, evenPast(9, 3)...), 0 <= bits && bits <= 15)
		wantGuardOk(t, guardOf(bits, 31), false)
	}
	for _, bits := range wrongBits() {
		wantGuardOk(t, guardOf(bits), false)
	}
}

func TestRoomOf(t *testing.T) {
	for _, c := range []struct {
		past []int
		want int
	}{
		{nil, 30}, {[]int{}, 30}, {[]int{0}, 30}, {evenPast(9, 0), 30}, {[]int{30}, 0}, {[]int{0, 30}, 0}, {evenPast(9, 3), 3}, {[]int{10, 10, 10}, 0},
		{[]int{1}, 29}, {[]int{29}, 1}, {[]int{28}, 2}, {[]int{1, 2, 3}, 24}, {[]int{0, 0, 0, 0, 0, 0, 0, 0, 30}, 0}, {[]int{0, 0, 0, 0, 0, 0, 0, 0, 7}, 23},
	} {
		for _, alarm := range []int{0, 1, 15} {
			wantRoom(t, guardOf(alarm, c.past...), c.want)
		}
	}
	for n := range 31 {
		wantRoom(t, guardOf(0, n), 30-n)
		wantRoom(t, guardOf(0, 0, 0, 0, 0, 0, 0, 0, 0, n), 30-n)
		wantRoom(t, guardOf(0, n/2, n-n/2), 30-n)
	}
}

// It is said of all guards alike.
func TestRoomOfGuardsThatAreNotRight(t *testing.T) {
	for _, c := range []struct {
		past []int
		want int
	}{
		{[]int{31}, -1}, {[]int{-1}, 31}, {[]int{30, 30}, -30}, {evenPast(10, 3), 0}, {evenPast(11, 3), -3}, {evenPast(300, 1), -270}, {[]int{-1, 1}, 30},
		{[]int{math.MaxInt}, -math.MaxInt + 30}, {[]int{math.MaxInt, 30}, -math.MaxInt}, {[]int{math.MaxInt, 31}, math.MinInt}, {[]int{math.MaxInt, -math.MaxInt}, 30},
		{append(evenPast(9, 0), 5), 25}, {append(evenPast(20, 0), 5), 25},
	} {
		wantRoom(t, guardOf(0, c.past...), c.want)
		wantRoom(t, guardOf(16, c.past...), c.want)
	}
	for _, bits := range wrongBits() {
		wantRoom(t, guardOf(bits, 3, 4), 23)
	}
	for _, g := range wrongGuards() {
		wantRoom(t, g, tellRoom(g))
	}
}

func TestFeel(t *testing.T) {
	const block, air, door, power = impl.SenseBlock, impl.SenseAir, impl.SenseDoor, impl.SensePower
	for _, c := range []struct {
		alarm, bits, unseen, seen int
	}{
		{0, 0, 0, 0}, {0, block, block, block}, {0, air, air, air}, {0, door, door, door}, {0, power, power, power},
		{0, block | power, block | power, block | power}, {0, 15, 15, 15},
		{air, 0, air, 0}, {air, air, air, air}, {air, door, air | door, door}, {air, air | door, air | door, air | door},
		{air | door, air, air | door, air}, {block | power, door, block | door | power, door}, {block | power, block | air, block | air | power, block | air},
		{15, 0, 15, 0}, {15, 15, 15, 15}, {15, power, 15, power}, {power, 15, 15, 15},
	} {
		for _, past := range rightPasts() {
			wantFeel(t, guardOf(c.alarm, past...), c.bits, false, guardOf(c.unseen, past...))
			wantFeel(t, guardOf(c.alarm, past...), c.bits, true, guardOf(c.seen, past...))
		}
	}
}

func TestFeelOfAllBits(t *testing.T) {
	for _, g := range rightGuards() {
		for bits := range 16 {
			for _, seen := range []bool{false, true} {
				wantFeel(t, g, bits, seen, tellFeel(g, bits, seen))
			}
		}
	}
}

func TestFeelOfWrongOnes(t *testing.T) {
	for _, bits := range wrongBits() {
		for _, g := range []impl.Guard{{}, guardOf(0, 5), guardOf(6, 30), guardOf(15, evenPast(9, 3)...)} {
			wantFeel(t, g, bits, false, g)
			wantFeel(t, g, bits, true, g)
		}
	}
	for _, g := range wrongGuards() {
		for _, bits := range []int{0, 1, 6, 15, 16, -1, math.MinInt, math.MaxInt} {
			wantFeel(t, g, bits, false, g)
			wantFeel(t, g, bits, true, g)
		}
	}
}

func TestAllow(t *testing.T) {
	for _, past := range rightPasts() {
		room := tellRoom(guardOf(0, past...))
		for _, n := range []int{math.MinInt, math.MinInt + 1, -1 << 32, -31, -2, -1, 0} {
			wantAllow(t, guardOf(0, past...), n, 0)
		}
		for n := range room + 1 {
			wantAllow(t, guardOf(0, past...), n, n)
		}
		for _, n := range []int{room + 1, room + 2, room + 30, 100, 1 << 32, math.MaxInt - 1, math.MaxInt} {
			wantAllow(t, guardOf(0, past...), n, room)
		}
	}
}

func TestAllowNothing(t *testing.T) {
	for _, n := range numbersToPass() {
		for bits := 1; bits <= 15; bits++ {
			for _, past := range rightPasts() {
				wantAllow(t, guardOf(bits, past...), n, 0)
			}
		}
		for _, g := range wrongGuards() {
			wantAllow(t, g, n, 0)
		}
	}
}

func TestPass(t *testing.T) {
	for _, c := range []struct {
		past []int
		n    int
		want []int
	}{
		{nil, 0, []int{0}}, {nil, 1, []int{1}}, {nil, 30, []int{30}}, {nil, 31, []int{30}}, {nil, -1, []int{0}},
		{[]int{7}, 3, []int{3, 7}}, {[]int{7}, 23, []int{23, 7}}, {[]int{7}, 24, []int{23, 7}}, {[]int{30}, 5, []int{0, 30}},
		{[]int{1, 2, 3, 4, 5, 6, 7}, 1, []int{1, 1, 2, 3, 4, 5, 6, 7}}, {[]int{1, 2, 3, 4, 5, 6, 7}, 9, []int{2, 1, 2, 3, 4, 5, 6, 7}},
		{[]int{1, 2, 3, 4, 5, 6, 7, 0}, 2, []int{2, 1, 2, 3, 4, 5, 6, 7, 0}}, {[]int{0, 1, 2, 3, 4, 5, 6, 7}, 9, []int{2, 0, 1, 2, 3, 4, 5, 6, 7}},
		{[]int{0, 1, 2, 3, 4, 5, 6, 7, 1}, 1, []int{1, 0, 1, 2, 3, 4, 5, 6, 7}}, {[]int{1, 0, 1, 2, 3, 4, 5, 6, 7}, 9, []int{1, 1, 0, 1, 2, 3, 4, 5, 6}},
		{evenPast(9, 3), 3, evenPast(9, 3)}, {evenPast(9, 3), 4, evenPast(9, 3)}, {evenPast(9, 3), 0, append([]int{0}, evenPast(8, 3)...)},
		{[]int{0, 0, 0, 0, 0, 0, 0, 0, 30}, 30, evenPast(9, 0)}, {[]int{30, 0, 0, 0, 0, 0, 0, 0, 0}, 30, []int{0, 30, 0, 0, 0, 0, 0, 0, 0}},
	} {
		for _, alarm := range []int{0, 1, 6, 15} {
			wantPass(t, guardOf(alarm, c.past...), c.n, guardOf(alarm, c.want...))
		}
	}
}

func TestPassOfEveryNumber(t *testing.T) {
	for _, g := range rightGuards() {
		for _, n := range numbersToPass() {
			want := tellPass(g, n)
			wantPass(t, g, n, want)
			wantGuardOk(t, want, true)
		}
	}
}

func TestPassOfGuardsThatAreNotRight(t *testing.T) {
	for _, g := range wrongGuards() {
		for _, n := range []int{math.MinInt, -1, 0, 1, 5, 30, 31, math.MaxInt} {
			wantPass(t, g, n, g)
		}
	}
}

func TestGuardsOfAllSmallPasts(t *testing.T) {
	for size := range 10 {
		listsOf(size, []int{0, 4, 11}, func(past []int) {
			for _, alarm := range []int{0, 4} {
				g := guardOf(alarm, past...)
				wantGuardOk(t, g, tellGuardOk(g))
				wantRoom(t, g, tellRoom(g))
				for _, n := range []int{-1, 0, 2, 31} {
					wantAllow(t, g, n, tellAllow(g, n))
					wantPass(t, g, n, tellPass(g, n))
				}
			}
		})
	}
}

func TestGuardsOfDrawnNumbers(t *testing.T) {
	d := drawer(16)
	edges := []int{math.MinInt, math.MaxInt, -1, 0, 0, 0, 0, 1, 1, 2, 3, 4, 5, 15, 16, 29, 30, 31, 1 << 62, 1<<63 - 30}
	draw := func() int { return edges[d.below(len(edges))] }
	right := 0
	for range 100000 {
		g := guardOf(d.below(18) - 1)
		for range d.below(12) {
			g.Past = append(g.Past, draw()*min(d.below(8), 1))
		}
		n, bits, seen := draw(), draw(), d.below(2) == 0
		if tellGuardOk(g) {
			right++
		}
		wantGuardOk(t, g, tellGuardOk(g))
		wantRoom(t, g, tellRoom(g))
		wantFeel(t, g, bits, seen, tellFeel(g, bits, seen))
		wantAllow(t, g, n, tellAllow(g, n))
		wantPass(t, g, n, tellPass(g, n))
	}
	if right < 10000 || right > 90000 {
		t.Errorf("%d of the guards were right", right)
	}
}

// guardCall is a call that takes a guard and answers one.
type guardCall struct {
	what string
	call func(g impl.Guard) impl.Guard
}

func guardCalls() []guardCall {
	return []guardCall{
		{"Feel of nothing", func(g impl.Guard) impl.Guard { return impl.Feel(g, 0, false) }},
		{"Feel", func(g impl.Guard) impl.Guard { return impl.Feel(g, 5, false) }},
		{"Feel, seen", func(g impl.Guard) impl.Guard { return impl.Feel(g, 2, true) }},
		{"Feel of wrong bits", func(g impl.Guard) impl.Guard { return impl.Feel(g, 16, true) }},
		{"Pass of 0", func(g impl.Guard) impl.Guard { return impl.Pass(g, 0) }},
		{"Pass of 2", func(g impl.Guard) impl.Guard { return impl.Pass(g, 2) }},
		{"Pass of too many", func(g impl.Guard) impl.Guard { return impl.Pass(g, math.MaxInt) }},
		{"Pass of too few", func(g impl.Guard) impl.Guard { return impl.Pass(g, math.MinInt) }},
	}
}

func TestGuardsShareNoMemory(t *testing.T) {
	for _, one := range slices.Concat(rightGuards(), wrongGuards()) {
		for _, spare := range []int{0, 1, 9} {
			past, memory := fencedNumbers(one.Past, spare)
			before := slices.Clone(memory)
			g := impl.Guard{Past: past, Alarm: one.Alarm}
			for _, c := range guardCalls() {
				answer := c.call(g)
				wantOwnMemory(t, c.what, []extent{extentOf(memory)}, []extent{extentOf(answer.Past)})
				for place := range answer.Past[:cap(answer.Past)] {
					answer.Past[:cap(answer.Past)][place] = -7
				}
			}
			impl.GuardOk(g)
			impl.RoomOf(g)
			impl.Allow(g, 3)
			if !slices.Equal(memory, before) {
				t.Fatalf("of %+v, calls made %v of %v", one, memory, before)
			}
		}
	}
}

// Two that come of one guard stay apart.
func TestGuardsOfOneGuardStayApart(t *testing.T) {
	g := guardOf(3, 1, 2, 3, 4)
	for _, c := range guardCalls() {
		first := c.call(g)
		second := c.call(g)
		wantOwnMemory(t, c.what, []extent{extentOf(first.Past)}, []extent{extentOf(second.Past)})
	}
	one, other := impl.Pass(g, 5), impl.Pass(g, 6)
	one, other = impl.Pass(one, 7), impl.Pass(other, 8)
	if !slices.Equal(one.Past, []int{7, 5, 1, 2, 3, 4}) || !slices.Equal(other.Past, []int{8, 6, 1, 2, 3, 4}) {
		t.Errorf("they are %v and %v", one.Past, other.Past)
	}
}

func TestGuardsAreAnsweredAlike(t *testing.T) {
	for _, g := range slices.Concat(rightGuards(), wrongGuards()) {
		ok, room, allowed := impl.GuardOk(g), impl.RoomOf(g), impl.Allow(g, 4)
		felt, seen, passed := impl.Feel(g, 6, false), impl.Feel(g, 6, true), impl.Pass(g, 4)
		for range 3 {
			wantGuardOk(t, g, ok)
			wantRoom(t, g, room)
			wantAllow(t, g, 4, allowed)
			wantFeel(t, g, 6, false, felt)
			wantFeel(t, g, 6, true, seen)
			wantPass(t, g, 4, passed)
		}
	}
}

func TestGuardsOfManyAtOnce(t *testing.T) {
	guards := rightGuards()
	var all sync.WaitGroup
	for range 16 {
		all.Go(func() {
			for _, g := range guards {
				wantGuardOk(t, g, true)
				wantRoom(t, g, tellRoom(g))
				wantAllow(t, g, 3, tellAllow(g, 3))
				wantFeel(t, g, 9, false, tellFeel(g, 9, false))
				wantPass(t, g, 3, tellPass(g, 3))
			}
		})
	}
	all.Wait()
}
