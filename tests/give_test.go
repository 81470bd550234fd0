package tests

import (
	"math"
	"testing"

	"loop.example/g00200/impl"
)

func tellWants(p impl.Pump) int {
	if !tellPumpOk(p) || p.State != 1 && p.State != 2 {
		return 0
	}
	_, n := givenInAll(p.Rate, 1)
	if p.State == 1 {
		n = min(n, p.Left)
	}
	return n + min(p.Bolus, 3)
}

// tellGive counts pulse by pulse.
func tellGive(p impl.Pump, n int) impl.Pump {
	if !tellPumpOk(p) || p.State != 1 && p.State != 2 {
		return p
	}
	next := p
	for pulse := range min(max(n, 0), tellWants(p)) {
		if pulse < 3 && next.Bolus > 0 {
			next.Bolus--
		} else if p.State == 1 {
			next.Left--
		}
		if next.Given < 1000000000000 {
			next.Given++
		}
	}
	next.Rate, _ = givenInAll(p.Rate, 1)
	if p.State == 1 && next.Left == 0 {
		next.State, next.Rate = 2, rateOf(1, 50, 0)
	}
	return next
}

func wantWants(t *testing.T, p impl.Pump, want int) {
	t.Helper()
	if got := impl.Wants(p); got != want {
		t.Errorf("Wants(%+v) = %d, want %d", p, got, want)
	}
}

func wantGive(t *testing.T, p impl.Pump, n int, want impl.Pump) {
	t.Helper()
	if got := impl.Give(p, n); got != want {
		t.Errorf("Give(%+v, %d) = %+v, want %+v", p, n, got, want)
	}
}

// numbersToGive are around all that a pump may want, and far from it.
func numbersToGive() []int {
	return []int{math.MinInt, math.MinInt + 1, -1 << 32, -7, -3, -1, 0, 1, 2, 3, 4, 5, 6, 7, 8, 100, 5000, 1 << 32, 1<<32 + 1, math.MaxInt - 1, math.MaxInt}
}

func runningPump(rate impl.Rate, left int, bolus int) impl.Pump {
	return impl.Pump{State: impl.PumpBasal, Rate: rate, Left: left, Bolus: bolus, Given: 40}
}

func keepingPump(rate impl.Rate, bolus int) impl.Pump {
	return impl.Pump{State: impl.PumpKeep, Rate: rate, Bolus: bolus, Given: 40}
}

func TestWantsOfBasal(t *testing.T) {
	for _, c := range []struct {
		rate impl.Rate
		left int
		want int
	}{
		{rateOf(3, 1, 0), 5000, 3}, {rateOf(3, 1, 0), 4, 3}, {rateOf(3, 1, 0), 3, 3}, {rateOf(3, 1, 0), 2, 2}, {rateOf(3, 1, 0), 1, 1},
		{rateOf(5, 2, 0), 3, 2}, {rateOf(5, 2, 0), 2, 2}, {rateOf(5, 2, 0), 1, 1}, {rateOf(5, 2, 1), 4, 3}, {rateOf(5, 2, 1), 3, 3}, {rateOf(5, 2, 1), 2, 2},
		{rateOf(1, 1, 0), 2, 1}, {rateOf(1, 1, 0), 1, 1}, {rateOf(1, 2, 0), 1, 0}, {rateOf(1, 2, 1), 1, 1}, {rateOf(1, 2, 1), 9, 1},
		{rateOf(1, 1000, 998), 7, 0}, {rateOf(1, 1000, 999), 7, 1}, {rateOf(0, 1, 0), 5, 0}, {rateOf(0, 1000000, 999999), 5, 0},
		{rateOf(1000000, 333334, 333333), 5000, 3}, {rateOf(1000, 334, 0), 2, 2}, {rateOf(999, 333, 332), 4, 3},
	} {
		wantWants(t, runningPump(c.rate, c.left, 0), c.want)
	}
}

func TestWantsOfKeep(t *testing.T) {
	for rest := range 50 {
		want := 0
		if rest == 49 {
			want = 1
		}
		wantWants(t, keepingPump(rateOf(1, 50, rest), 0), want)
	}
	wantWants(t, keepingPump(rateOf(3, 1, 0), 0), 3)
	wantWants(t, keepingPump(rateOf(0, 1, 0), 0), 0)
	wantWants(t, keepingPump(rateOf(5, 2, 1), 0), 3)
}

func TestWantsOfABolus(t *testing.T) {
	for _, c := range [][2]int{{0, 0}, {1, 1}, {2, 2}, {3, 3}, {4, 3}, {5, 3}, {99, 3}, {100, 3}} {
		wantWants(t, runningPump(rateOf(1, 2, 0), 9, c[0]), c[1])
		wantWants(t, runningPump(rateOf(1, 2, 1), 9, c[0]), c[1]+1)
		wantWants(t, runningPump(rateOf(3, 1, 0), 2, c[0]), c[1]+2)
		wantWants(t, runningPump(rateOf(3, 1, 0), 5000, c[0]), c[1]+3)
		wantWants(t, keepingPump(rateOf(1, 50, 48), c[0]), c[1])
		wantWants(t, keepingPump(rateOf(1, 50, 49), c[0]), c[1]+1)
	}
}

func TestWantsOfOthers(t *testing.T) {
	for _, bolus := range []int{0, 1, 3, 100} {
		for _, place := range [][2]int{{0, 0}, {3, 0}, {3, 1}, {3, 2}} {
			p := pumpAt(place[0], place[1], bolus)
			p.Rate = rateOf(3, 1, 0)
			wantPumpOk(t, p, true)
			wantWants(t, p, 0)
		}
	}
	for _, p := range wrongPumps() {
		wantWants(t, p, 0)
	}
}

func TestWantsOfAllRightOnes(t *testing.T) {
	for _, p := range rightPumps() {
		want := tellWants(p)
		wantWants(t, p, want)
		if want < 0 || want > 6 {
			t.Fatalf("%+v wants %d", p, want)
		}
	}
}

// It wants a pulse of the rate and three of the bolus; what is given counts for the bolus first.
func TestGiveCountsForTheBolusFirst(t *testing.T) {
	for n := -1; n <= 5; n++ {
		given := min(max(n, 0), 4)
		wantGive(t, runningPump(rateOf(3, 2, 0), 9, 8), n, impl.Pump{
			State: impl.PumpBasal, Rate: rateOf(3, 2, 1), Left: 9 - max(given-3, 0), Bolus: 8 - min(given, 3), Given: 40 + given,
		})
		wantGive(t, keepingPump(rateOf(3, 2, 0), 8), n, impl.Pump{
			State: impl.PumpKeep, Rate: rateOf(3, 2, 1), Bolus: 8 - min(given, 3), Given: 40 + given,
		})
	}
	for _, c := range []struct{ bolus, n, bolusBehind, leftBehind int }{
		{0, 0, 0, 9}, {0, 1, 0, 8}, {0, 3, 0, 6}, {0, 4, 0, 6},
		{1, 0, 1, 9}, {1, 1, 0, 9}, {1, 2, 0, 8}, {1, 4, 0, 6}, {1, 5, 0, 6},
		{2, 1, 1, 9}, {2, 2, 0, 9}, {2, 3, 0, 8}, {2, 5, 0, 6}, {2, 6, 0, 6},
		{3, 2, 1, 9}, {3, 3, 0, 9}, {3, 4, 0, 8}, {3, 6, 0, 6}, {3, 7, 0, 6},
		{4, 3, 1, 9}, {4, 4, 1, 8}, {4, 6, 1, 6}, {4, 7, 1, 6},
		{100, 3, 97, 9}, {100, 4, 97, 8}, {100, 6, 97, 6}, {100, 7, 97, 6},
	} {
		want := runningPump(rateOf(3, 1, 0), c.leftBehind, c.bolusBehind)
		want.Given = 40 + 9 - c.leftBehind + c.bolus - c.bolusBehind
		wantGive(t, runningPump(rateOf(3, 1, 0), 9, c.bolus), c.n, want)
	}
}

// The rate is stepped, be what it wants given or not.
func TestGiveNothing(t *testing.T) {
	for _, n := range []int{0, -1, -2, -1 << 32, math.MinInt} {
		wantGive(t, runningPump(rateOf(5, 7, 6), 9, 4), n, runningPump(rateOf(5, 7, 4), 9, 4))
		wantGive(t, runningPump(rateOf(3, 1, 0), 1, 0), n, runningPump(rateOf(3, 1, 0), 1, 0))
		wantGive(t, keepingPump(rateOf(1, 50, 49), 4), n, keepingPump(rateOf(1, 50, 0), 4))
		wantGive(t, keepingPump(rateOf(1, 50, 48), 0), n, keepingPump(rateOf(1, 50, 49), 0))
	}
}

func TestGiveMoreThanIsWanted(t *testing.T) {
	for _, p := range []impl.Pump{
		runningPump(rateOf(5, 7, 6), 9, 0), runningPump(rateOf(5, 7, 6), 9, 2), runningPump(rateOf(5, 7, 6), 9, 100), runningPump(rateOf(3, 1, 0), 2, 4),
		runningPump(rateOf(1, 2, 0), 9, 0), keepingPump(rateOf(1, 50, 49), 4), keepingPump(rateOf(1, 50, 48), 0), keepingPump(rateOf(1, 50, 3), 1),
	} {
		all := impl.Wants(p)
		want := impl.Give(p, all)
		if want.Given != p.Given+all {
			t.Errorf("%+v gave %d, and is %+v then", p, all, want)
		}
		for _, n := range []int{all + 1, all + 2, 5000, 1 << 32, math.MaxInt - 1, math.MaxInt} {
			wantGive(t, p, n, want)
		}
	}
}

func TestGiveTheLastPulse(t *testing.T) {
	keep := rateOf(1, 50, 0)
	for _, c := range []struct {
		rate impl.Rate
		left int
		n    int
		want impl.Pump
	}{
		{rateOf(1, 1, 0), 1, 1, impl.Pump{State: 2, Rate: keep, Given: 41}},
		{rateOf(1, 1, 0), 1, 0, impl.Pump{State: 1, Rate: rateOf(1, 1, 0), Left: 1, Given: 40}},
		{rateOf(1, 1, 0), 2, 1, impl.Pump{State: 1, Rate: rateOf(1, 1, 0), Left: 1, Given: 41}},
		{rateOf(5, 2, 1), 1, 1, impl.Pump{State: 2, Rate: keep, Given: 41}},
		{rateOf(5, 2, 1), 1, 3, impl.Pump{State: 2, Rate: keep, Given: 41}},
		{rateOf(5, 2, 0), 2, 2, impl.Pump{State: 2, Rate: keep, Given: 42}},
		{rateOf(5, 2, 0), 2, 1, impl.Pump{State: 1, Rate: rateOf(5, 2, 1), Left: 1, Given: 41}},
		{rateOf(5, 2, 0), 3, 3, impl.Pump{State: 1, Rate: rateOf(5, 2, 1), Left: 1, Given: 42}},
		{rateOf(3, 1, 0), 3, 3, impl.Pump{State: 2, Rate: keep, Given: 43}},
		{rateOf(2, 3, 2), 1, 9, impl.Pump{State: 2, Rate: keep, Given: 41}},
	} {
		wantGive(t, runningPump(c.rate, c.left, 0), c.n, c.want)
	}
}

// Pulses of a bolus are none of Left; a bolus goes on behind the last pulse of Left.
func TestGiveTheLastPulseBesideABolus(t *testing.T) {
	p := runningPump(rateOf(1, 1, 0), 1, 5)
	for n := range 4 {
		wantGive(t, p, n, impl.Pump{State: impl.PumpBasal, Rate: rateOf(1, 1, 0), Left: 1, Bolus: 5 - n, Given: 40 + n})
	}
	behind := impl.Pump{State: impl.PumpKeep, Rate: rateOf(1, 50, 0), Bolus: 2, Given: 44}
	wantGive(t, p, 4, behind)
	wantWants(t, behind, 2)
	wantGive(t, behind, 2, impl.Pump{State: impl.PumpKeep, Rate: rateOf(1, 50, 1), Given: 46})
	wantGive(t, runningPump(rateOf(1, 1, 0), 1, 3), 3, impl.Pump{State: impl.PumpBasal, Rate: rateOf(1, 1, 0), Left: 1, Given: 43})
	wantGive(t, runningPump(rateOf(1, 2, 0), 1, 3), 4, impl.Pump{State: impl.PumpBasal, Rate: rateOf(1, 2, 1), Left: 1, Given: 43})
}

func TestGiveNearBig(t *testing.T) {
	for _, below := range []int{0, 1, 2, 3, 4, 5, 6, 7} {
		for n := -1; n <= 7; n++ {
			given := min(max(n, 0), 6)
			p := runningPump(rateOf(3, 1, 0), 9, 8)
			p.Given = impl.Big - below
			wantGive(t, p, n, impl.Pump{
				State: impl.PumpBasal, Rate: rateOf(3, 1, 0), Left: 9 - max(given-3, 0), Bolus: 8 - min(given, 3), Given: impl.Big - max(below-given, 0),
			})
			p = keepingPump(rateOf(3, 1, 0), 8)
			p.Given = impl.Big - below
			wantGive(t, p, n, impl.Pump{State: impl.PumpKeep, Rate: rateOf(3, 1, 0), Bolus: 8 - min(given, 3), Given: impl.Big - max(below-given, 0)})
		}
	}
}

func TestGiveOfOthers(t *testing.T) {
	for _, n := range numbersToGive() {
		for _, bolus := range []int{0, 1, 3, 100} {
			for _, place := range [][2]int{{0, 0}, {3, 0}, {3, 1}, {3, 2}} {
				p := pumpAt(place[0], place[1], bolus)
				wantGive(t, p, n, p)
			}
		}
		for _, p := range wrongPumps() {
			wantGive(t, p, n, p)
		}
	}
}

func TestGiveOfAllRightOnes(t *testing.T) {
	for _, p := range rightPumps() {
		for _, n := range numbersToGive() {
			want := tellGive(p, n)
			wantGive(t, p, n, want)
			wantPumpOk(t, want, true)
		}
	}
}

// Behind t ticks it has given what the rate says of t, until that is Volume; from then on a pulse in KeepDen ticks.
func wantWholeVolume(t *testing.T, o impl.Order) {
	t.Helper()
	p := takenOf(t, impl.PumpNew(), o)
	last := (o.Volume*o.Den + o.Num - 1) / o.Num
	for tick := 1; tick <= last+160; tick++ {
		p = impl.Give(p, impl.Wants(p))
		want := impl.Pump{State: impl.PumpBasal, Rate: rateOf(o.Num, o.Den, tick*o.Num%o.Den), Given: tick * o.Num / o.Den}
		want.Left = o.Volume - want.Given
		if tick >= last {
			kept := tick - last
			want = impl.Pump{State: impl.PumpKeep, Rate: rateOf(1, 50, kept%50), Given: o.Volume + kept/50}
		}
		if p != want {
			t.Fatalf("%+v: behind %d ticks it is %+v, want %+v", o, tick, p, want)
		}
	}
}

func TestAPumpGivesAllThatItWasToldAndKeepsOpen(t *testing.T) {
	for den := 1; den <= 12; den++ {
		for num := 1; num <= 3*den; num++ {
			for _, volume := range []int{1, 2, 3, 4, 5, 7, 50, 101} {
				wantWholeVolume(t, basalOf(num, den, volume))
			}
		}
	}
	for _, o := range []impl.Order{
		basalOf(3, 1, 5000), basalOf(1, 1, 5000), basalOf(1, 50, 5000), basalOf(1, 1000, 1), basalOf(1, 1000, 3), basalOf(999, 1000, 5000),
		basalOf(1000, 334, 5000), basalOf(1000, 1000, 4999), basalOf(7, 1000, 500), basalOf(999, 333, 5000), basalOf(50, 49, 777),
	} {
		wantWholeVolume(t, o)
	}
}

func TestABolusIsGivenWhole(t *testing.T) {
	for _, bolus := range []int{1, 2, 3, 4, 5, 6, 98, 99, 100} {
		for _, o := range []impl.Order{basalOf(1, 3, 20), basalOf(3, 1, 20), basalOf(5, 2, 60), basalOf(1, 60, 2)} {
			p := takenOf(t, takenOf(t, impl.PumpNew(), o), bolusOf(bolus))
			plain := takenOf(t, impl.PumpNew(), o)
			for tick := 1; tick <= 200; tick++ {
				if p.Bolus > 0 {
					wantRefused(t, p, bolusOf(1))
				}
				p, plain = impl.Give(p, impl.Wants(p)), impl.Give(plain, impl.Wants(plain))
				want := plain
				want.Bolus = max(bolus-3*tick, 0)
				want.Given += bolus - want.Bolus
				if p != want {
					t.Fatalf("%+v and a bolus of %d: behind %d ticks it is %+v, want %+v", o, bolus, tick, p, want)
				}
			}
		}
	}
}

// Who lets less through, or nothing, puts off what was told, but takes nothing of it away.
func TestAPumpThatIsHeldBackGivesAllInTheEnd(t *testing.T) {
	d := drawer(15)
	for range 300 {
		den := 1 + d.below(6)
		o := basalOf(1+d.below(3*den), den, 1+d.below(80))
		bolus := 1 + d.below(40)
		p := takenOf(t, takenOf(t, impl.PumpNew(), o), bolusOf(bolus))
		sum := 0
		for ticks := 0; p.State == impl.PumpBasal || p.Bolus > 0; ticks++ {
			n := d.below(impl.Wants(p) + 1)
			next := impl.Give(p, n)
			sum += n
			if next != tellGive(p, n) || next.Given != sum || !impl.PumpOk(next) || ticks > 20000 {
				t.Fatalf("Give(%+v, %d) = %+v", p, n, next)
			}
			if next.State == impl.PumpBasal && next.Given+next.Left+next.Bolus != o.Volume+bolus {
				t.Fatalf("%+v and a bolus of %d: %+v", o, bolus, next)
			}
			p = next
		}
		if told := o.Volume + bolus; sum < told || p.Left != 0 || p.State != impl.PumpKeep {
			t.Errorf("of %d pulses %d are given: %+v", told, sum, p)
		}
	}
}

// A pause, however long, is as if its ticks were not there; a stop ends all of it.
func TestAPauseChangesNothing(t *testing.T) {
	for at := range 80 {
		p := takenOf(t, takenOf(t, impl.PumpNew(), basalOf(2, 3, 12)), bolusOf(7))
		for range at {
			p = impl.Give(p, impl.Wants(p))
		}
		held := takenOf(t, p, impl.Order{Kind: impl.OrderPause})
		paused := held
		for n := range 120 {
			wantWants(t, held, 0)
			held = impl.Give(held, n)
		}
		wantTake(t, held, impl.Order{Kind: impl.OrderGo}, p, true)
		for _, one := range []impl.Pump{p, held} {
			stopped := takenOf(t, one, impl.Order{Kind: impl.OrderStop})
			if stopped != (impl.Pump{Rate: p.Rate, Given: p.Given}) || impl.Give(stopped, 3) != stopped || impl.Wants(stopped) != 0 {
				t.Errorf("behind %d ticks and a stop it is %+v", at, stopped)
			}
		}
		if held != paused {
			t.Errorf("a pause made %+v of %+v", held, paused)
		}
	}
}

func drawnOrder(d *drawer) impl.Order {
	o := impl.Order{Kind: d.below(8)}
	if o.Kind == impl.OrderBasal {
		o.Den = 1 + d.below(6)
		o.Num, o.Volume = d.below(3*o.Den+2), d.below(30)
	}
	if o.Kind == impl.OrderBolus {
		o.Volume = d.below(25)
	}
	return o
}

func TestPumpsInDrawnLives(t *testing.T) {
	d := drawer(51)
	seen := map[[3]int]int{}
	for range 300 {
		p := impl.PumpNew()
		given := 0
		for range 400 {
			if d.below(4) == 0 {
				o := drawnOrder(&d)
				want, ok := tellTake(p, o)
				wantTake(t, p, o, want, ok)
				if ok {
					seen[[3]int{p.State, want.State, o.Kind}]++
				}
				p = want
			}
			wants := tellWants(p)
			wantWants(t, p, wants)
			n := d.below(wants+3) - 1
			want := tellGive(p, n)
			wantGive(t, p, n, want)
			given += min(max(n, 0), wants)
			if !impl.PumpOk(want) || want.Given != given {
				t.Fatalf("%d were given: %+v", given, want)
			}
			seen[[3]int{p.State, want.State, 0}]++
			p = want
		}
	}
	// Two ways each of a programme, a bolus, a pause and back from it, four of a stop, and five through a tick.
	if len(seen) != 17 {
		t.Errorf("the lives went %d ways: %v", len(seen), seen)
	}
}

func TestPumpsOfDrawnNumbers(t *testing.T) {
	d := drawer(150)
	edges := []int{math.MinInt, -1, 0, 0, 0, 1, 1, 2, 3, 4, 50, 100, 101, 5000, 5001, impl.Big, impl.Big + 1, math.MaxInt}
	draw := func() int { return edges[d.below(len(edges))] }
	for range 200000 {
		p := impl.Pump{State: draw(), Rate: rateOf(draw(), draw(), draw()), Left: draw(), Bolus: draw(), Given: draw(), Back: draw()}
		o := impl.Order{Kind: draw(), Num: draw(), Den: draw(), Volume: draw()}
		n := draw()
		want, ok := tellTake(p, o)
		wantPumpOk(t, p, tellPumpOk(p))
		wantTake(t, p, o, want, ok)
		wantWants(t, p, tellWants(p))
		wantGive(t, p, n, tellGive(p, n))
	}
}
