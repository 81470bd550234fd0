package tests

import (
	"math"
	"slices"
	"sync"
	"testing"

	"loop.example/g00200/impl"
)

func rateOf(num int, den int, rest int) impl.Rate {
	return impl.Rate{Num: num, Den: den, Rest: rest}
}

// pumpAt is a right pump in this state, with so much for a bolus; paused it goes back to back.
func pumpAt(state int, back int, bolus int) impl.Pump {
	p := impl.Pump{State: state, Rate: rateOf(3, 7, 5), Bolus: bolus, Given: 40, Back: back}
	if state == 1 || back == 1 {
		p.Left = 9
	}
	return p
}

// placesOfPumps are the six pairs of a State and a Back that a right pump may have.
func placesOfPumps() [][2]int {
	return [][2]int{{0, 0}, {1, 0}, {2, 0}, {3, 0}, {3, 1}, {3, 2}}
}

func ratesOfPumps() []impl.Rate {
	return []impl.Rate{
		rateOf(0, 1, 0), rateOf(1, 1, 0), rateOf(3, 1, 0), rateOf(1, 2, 1), rateOf(6, 2, 1), rateOf(5, 2, 0), rateOf(1, 50, 0), rateOf(1, 50, 48),
		rateOf(1, 50, 49), rateOf(1, 1000, 999), rateOf(1000, 334, 333), rateOf(1000000, 333334, 333333), rateOf(1000000, 1000000, 999999), rateOf(0, 1000000, 999999),
	}
}

func rightPumps() []impl.Pump {
	var out []impl.Pump
	for _, place := range placesOfPumps() {
		lefts := []int{0}
		if place[0] == 1 || place[1] == 1 {
			lefts = []int{1, 2, 3, 4, 7, 4999, 5000}
		}
		for _, rate := range ratesOfPumps() {
			for _, left := range lefts {
				for _, bolus := range []int{0, 1, 2, 3, 4, 99, 100} {
					for _, given := range []int{0, 1, 5000, impl.Big - 4, impl.Big - 1, impl.Big} {
						out = append(out, impl.Pump{State: place[0], Rate: rate, Left: left, Bolus: bolus, Given: given, Back: place[1]})
					}
				}
			}
		}
	}
	return out
}

// placesInPump are the eight numbers of a pump.
func placesInPump(p *impl.Pump) []*int {
	return []*int{&p.State, &p.Rate.Num, &p.Rate.Den, &p.Rate.Rest, &p.Left, &p.Bolus, &p.Given, &p.Back}
}

// wrongPumps have each one number that makes them wrong, mostly one that is just out of its bounds.
func wrongPumps() []impl.Pump {
	out := []impl.Pump{{}}
	for _, place := range placesOfPumps() {
		for _, bolus := range []int{0, 4} {
			right := pumpAt(place[0], place[1], bolus)
			for i := range placesInPump(&right) {
				for _, n := range []int{-1, 4, 22, 0, 1, 2, 7, 101, 5001, impl.Big + 1, 1000001, math.MaxInt, math.MinInt, 1 << 32, -1 << 32} {
					p := right
					*placesInPump(&p)[i] = n
					if !tellPumpOk(p) {
						out = append(out, p)
					}
				}
			}
		}
	}
	return out
}

// tellPumpOk asks how many Den a Num needs at least, so that nothing is multiplied.
func tellPumpOk(p impl.Pump) bool {
	if !slices.Contains(placesOfPumps(), [2]int{p.State, p.Back}) || !isRightRate(p.Rate) || (p.Rate.Num+2)/3 > p.Rate.Den {
		return false
	}
	if p.State == 1 || p.Back == 1 {
		p.Left--
	} else if p.Left != 0 {
		return false
	}
	return p.Left >= 0 && p.Left < 5000 && p.Bolus >= 0 && p.Bolus < 101 && p.Given >= 0 && p.Given < 1000000000001
}

func tellTake(p impl.Pump, o impl.Order) (impl.Pump, bool) {
	if !tellPumpOk(p) || !tellOrderOk(o) {
		return p, false
	}
	next := p
	switch [2]int{p.State, o.Kind} {
	case [2]int{0, 1}, [2]int{2, 1}:
		next = impl.Pump{State: 1, Rate: rateOf(o.Num, o.Den, 0), Left: o.Volume, Bolus: p.Bolus, Given: p.Given}
	case [2]int{1, 2}, [2]int{2, 2}:
		if p.Bolus > 0 {
			return p, false
		}
		next.Bolus = o.Volume
	case [2]int{1, 3}, [2]int{2, 3}:
		next.State, next.Back = 3, p.State
	case [2]int{3, 4}:
		next.State, next.Back = p.Back, 0
	case [2]int{0, 6}, [2]int{1, 6}, [2]int{2, 6}, [2]int{3, 6}:
		next = impl.Pump{Rate: p.Rate, Given: p.Given}
	default:
		return p, false
	}
	return next, true
}

func wantPumpOk(t *testing.T, p impl.Pump, want bool) {
	t.Helper()
	if got := impl.PumpOk(p); got != want {
		t.Errorf("PumpOk(%+v) = %v, want %v", p, got, want)
	}
}

func wantTake(t *testing.T, p impl.Pump, o impl.Order, want impl.Pump, wantOk bool) {
	t.Helper()
	if got, ok := impl.Take(p, o); got != want || ok != wantOk {
		t.Errorf("Take(%+v, %+v) = %+v, %v, want %+v, %v", p, o, got, ok, want, wantOk)
	}
}

func wantRefused(t *testing.T, p impl.Pump, o impl.Order) {
	t.Helper()
	wantTake(t, p, o, p, false)
}

func takenOf(t *testing.T, p impl.Pump, o impl.Order) impl.Pump {
	t.Helper()
	next, ok := impl.Take(p, o)
	if !ok {
		t.Fatalf("Take(%+v, %+v) is refused", p, o)
	}
	return next
}

func TestConstantsOfPumps(t *testing.T) {
	all := []int{impl.PumpIdle, impl.PumpBasal, impl.PumpKeep, impl.PumpPaused, impl.KeepDen, impl.BolusRate}
	if !slices.Equal(all, []int{0, 1, 2, 3, 50, 3}) {
		t.Errorf("the states, KeepDen and BolusRate are %v", all)
	}
}

func TestPumpNew(t *testing.T) {
	p := impl.PumpNew()
	if p != (impl.Pump{State: impl.PumpIdle, Rate: impl.Rate{Den: 1}}) {
		t.Errorf("PumpNew() = %+v", p)
	}
	wantPumpOk(t, p, true)
	if n := impl.Wants(p); n != 0 {
		t.Errorf("a new pump wants %d", n)
	}
}

func TestPumpOkOfStates(t *testing.T) {
	for _, place := range placesOfPumps() {
		wantPumpOk(t, pumpAt(place[0], place[1], 0), true)
	}
	for _, state := range []int{-1, 4, 5, 256, 1 << 32, 1<<32 + 1, math.MaxInt, math.MinInt} {
		for _, back := range []int{0, 1, 2, 3} {
			for _, left := range []int{0, 1} {
				p := pumpAt(0, 0, 0)
				p.State, p.Left, p.Back = state, left, back
				wantPumpOk(t, p, false)
			}
		}
	}
}

func TestPumpOkOfRates(t *testing.T) {
	right := 0
	for _, rate := range someRates() {
		for _, place := range placesOfPumps() {
			p := pumpAt(place[0], place[1], 0)
			p.Rate = rate
			want := tellPumpOk(p)
			wantPumpOk(t, p, want)
			if want {
				right++
			}
		}
	}
	if right < 1000 {
		t.Errorf("only %d pumps were right", right)
	}
}

// MaxRate is a limit of orders alone: a pump's Num may be above it.
func TestPumpOkOfRatesThatAreTooGreat(t *testing.T) {
	for _, den := range []int{1, 2, 3, 49, 50, 51, 333, 334, 1000, 1001, 333332, 333333} {
		for _, place := range placesOfPumps() {
			p := pumpAt(place[0], place[1], 0)
			for _, rest := range []int{0, den - 1} {
				p.Rate = rateOf(3*den, den, rest)
				wantPumpOk(t, p, true)
				p.Rate.Num++
				wantPumpOk(t, p, false)
			}
		}
	}
	p := pumpAt(2, 0, 0)
	for _, den := range []int{333334, 500000, 1000000} {
		p.Rate = rateOf(1000000, den, 0)
		wantPumpOk(t, p, true)
		p.Rate.Num++
		wantPumpOk(t, p, false)
	}
	for _, den := range []int{math.MaxInt / 3, math.MaxInt/3 + 1, math.MinInt / 3, math.MinInt/3 - 1, math.MinInt / 2, 6148914691236517206} {
		p.Rate = rateOf(1, den, 0)
		wantPumpOk(t, p, false)
	}
}

func TestPumpOkOfLeft(t *testing.T) {
	for _, place := range placesOfPumps() {
		told := place == [2]int{1, 0} || place == [2]int{3, 1}
		for _, left := range []int{0, 1, 2, 4999, 5000, 5001, 10000, -1, -5000, 1 << 32, math.MaxInt, math.MinInt} {
			p := pumpAt(place[0], place[1], 0)
			p.Left = left
			wantPumpOk(t, p, told && 1 <= left && left <= 5000 || !told && left == 0)
		}
	}
}

func TestPumpOkOfBolusAndGiven(t *testing.T) {
	for _, place := range placesOfPumps() {
		for _, bolus := range []int{0, 1, 99, 100, 101, 102, -1, -100, 1 << 32, math.MaxInt, math.MinInt} {
			wantPumpOk(t, pumpAt(place[0], place[1], bolus), 0 <= bolus && bolus <= 100)
		}
		for _, given := range []int{0, 1, impl.Big - 1, impl.Big, impl.Big + 1, -1, -impl.Big, math.MaxInt, math.MinInt} {
			p := pumpAt(place[0], place[1], 0)
			p.Given = given
			wantPumpOk(t, p, 0 <= given && given <= impl.Big)
		}
	}
}

func TestPumpOkOfBack(t *testing.T) {
	for _, back := range []int{0, 1, 2, 3, 4, -1, -2, 256, 1 << 32, 1<<32 + 1, math.MaxInt, math.MinInt} {
		for state := range 4 {
			for _, left := range []int{0, 1} {
				p := impl.Pump{State: state, Rate: rateOf(1, 1, 0), Left: left, Back: back}
				wantPumpOk(t, p, slices.Contains([][3]int{{0, 0, 0}, {1, 0, 1}, {2, 0, 0}, {3, 0, 0}, {3, 1, 1}, {3, 2, 0}}, [3]int{state, back, left}))
			}
		}
	}
}

func TestPumpOkOfRightAndWrongOnes(t *testing.T) {
	for _, p := range rightPumps() {
		wantPumpOk(t, p, true)
	}
	wrong := wrongPumps()
	for _, p := range wrong {
		wantPumpOk(t, p, false)
	}
	if len(wrong) < 500 {
		t.Errorf("only %d pumps were wrong", len(wrong))
	}
}

func TestPumpOkAtAllEdges(t *testing.T) {
	right := 0
	rates := []impl.Rate{rateOf(0, 1, 0), rateOf(3, 1, 0), rateOf(4, 1, 0), rateOf(1, 50, 49), rateOf(1, 50, 50), rateOf(1, 0, 0)}
	listsOf(2, []int{-1, 0, 1, 2, 3, 4, math.MaxInt, math.MinInt}, func(places []int) {
		listsOf(3, []int{-1, 0, 1, 100, 101, 5000, 5001, impl.Big, impl.Big + 1}, func(list []int) {
			for _, rate := range rates {
				p := impl.Pump{State: places[0], Back: places[1], Rate: rate, Left: list[0], Bolus: list[1], Given: list[2]}
				want := tellPumpOk(p)
				wantPumpOk(t, p, want)
				if want {
					right++
				}
			}
		})
	})
	if right < 200 {
		t.Errorf("only %d pumps were right", right)
	}
}

// Each of the six kinds in each of the four states, with all that a pump has.
func TestTake(t *testing.T) {
	basal, bolus := basalOf(5, 6, 300), bolusOf(8)
	pause, goOn, seen, stop := impl.Order{Kind: 3}, impl.Order{Kind: 4}, impl.Order{Kind: 5}, impl.Order{Kind: 6}
	rate := rateOf(3, 7, 5)
	started := impl.Pump{State: impl.PumpBasal, Rate: rateOf(5, 6, 0), Left: 300, Given: 40}
	stopped := impl.Pump{State: impl.PumpIdle, Rate: rate, Given: 40}

	idle := impl.Pump{State: impl.PumpIdle, Rate: rate, Given: 40}
	wantTake(t, idle, basal, started, true)
	wantTake(t, idle, stop, stopped, true)
	for _, o := range []impl.Order{bolus, pause, goOn, seen} {
		wantRefused(t, idle, o)
	}

	running := impl.Pump{State: impl.PumpBasal, Rate: rate, Left: 9, Given: 40}
	wantTake(t, running, bolus, impl.Pump{State: impl.PumpBasal, Rate: rate, Left: 9, Bolus: 8, Given: 40}, true)
	wantTake(t, running, pause, impl.Pump{State: impl.PumpPaused, Rate: rate, Left: 9, Given: 40, Back: impl.PumpBasal}, true)
	wantTake(t, running, stop, stopped, true)
	for _, o := range []impl.Order{basal, goOn, seen} {
		wantRefused(t, running, o)
	}

	keeping := impl.Pump{State: impl.PumpKeep, Rate: rate, Given: 40}
	wantTake(t, keeping, basal, started, true)
	wantTake(t, keeping, bolus, impl.Pump{State: impl.PumpKeep, Rate: rate, Bolus: 8, Given: 40}, true)
	wantTake(t, keeping, pause, impl.Pump{State: impl.PumpPaused, Rate: rate, Given: 40, Back: impl.PumpKeep}, true)
	wantTake(t, keeping, stop, stopped, true)
	for _, o := range []impl.Order{goOn, seen} {
		wantRefused(t, keeping, o)
	}

	for back, behind := range []impl.Pump{idle, running, keeping} {
		paused := behind
		paused.State, paused.Back = impl.PumpPaused, back
		wantTake(t, paused, goOn, behind, true)
		wantTake(t, paused, stop, stopped, true)
		for _, o := range []impl.Order{basal, bolus, pause, seen} {
			wantRefused(t, paused, o)
		}
	}
}

func TestTakeABolusBesideAnother(t *testing.T) {
	for _, state := range []int{impl.PumpBasal, impl.PumpKeep} {
		for _, has := range []int{1, 2, 3, 99, 100} {
			for _, volume := range []int{1, 2, 99, 100} {
				wantRefused(t, pumpAt(state, 0, has), bolusOf(volume))
				wantTake(t, pumpAt(state, 0, 0), bolusOf(volume), pumpAt(state, 0, volume), true)
			}
		}
	}
}

// A bolus is given on beside a new programme, waits in a pause, and is gone with a stop.
func TestTakeBesideABolus(t *testing.T) {
	for _, place := range placesOfPumps() {
		p := pumpAt(place[0], place[1], 77)
		wantTake(t, p, impl.Order{Kind: 6}, impl.Pump{Rate: p.Rate, Given: 40}, true)
		wantRefused(t, p, bolusOf(1))
	}
	for _, state := range []int{impl.PumpIdle, impl.PumpKeep} {
		wantTake(t, pumpAt(state, 0, 77), basalOf(1, 2, 3), impl.Pump{State: impl.PumpBasal, Rate: rateOf(1, 2, 0), Left: 3, Bolus: 77, Given: 40}, true)
	}
	for _, state := range []int{impl.PumpBasal, impl.PumpKeep} {
		wantTake(t, pumpAt(state, 0, 77), impl.Order{Kind: 3}, pumpAt(3, state, 77), true)
		wantTake(t, pumpAt(3, state, 77), impl.Order{Kind: 4}, pumpAt(state, 0, 77), true)
	}
}

func TestTakeOfWrongOrdersAndPumps(t *testing.T) {
	for _, place := range placesOfPumps() {
		for _, o := range wrongOrders() {
			wantRefused(t, pumpAt(place[0], place[1], 0), o)
		}
	}
	orders := []impl.Order{basalOf(1, 1, 1), basalOf(1000, 1000, 5000), bolusOf(1), bolusOf(100), {Kind: 3}, {Kind: 4}, {Kind: 5}, {Kind: 6}, {}, {Kind: 7}, bolusOf(0)}
	for _, p := range wrongPumps() {
		for _, o := range orders {
			wantRefused(t, p, o)
		}
	}
}

func TestTakeOfAllRightOnes(t *testing.T) {
	orders := []impl.Order{basalOf(1, 1, 1), basalOf(1000, 334, 5000), bolusOf(1), bolusOf(100), {Kind: 3}, {Kind: 4}, {Kind: 5}, {Kind: 6}}
	for _, p := range rightPumps() {
		for _, o := range orders {
			want, ok := tellTake(p, o)
			wantTake(t, p, o, want, ok)
			wantPumpOk(t, want, true)
		}
	}
	for _, o := range rightOrders() {
		for _, place := range placesOfPumps() {
			p := pumpAt(place[0], place[1], 0)
			want, ok := tellTake(p, o)
			wantTake(t, p, o, want, ok)
		}
	}
}

func TestPumpsAreAnsweredAlike(t *testing.T) {
	pumps := slices.Concat(wrongPumps(), rightPumps()[:500])
	o := basalOf(2, 3, 4)
	for range 3 {
		slices.Reverse(pumps)
		for _, p := range pumps {
			before := p
			want, ok := tellTake(p, o)
			wantPumpOk(t, p, tellPumpOk(p))
			wantTake(t, p, o, want, ok)
			wantWants(t, p, tellWants(p))
			wantGive(t, p, 2, tellGive(p, 2))
			if p != before || o != basalOf(2, 3, 4) {
				t.Fatalf("%+v was changed to %+v", before, p)
			}
		}
	}
}

// Who asks at the same time as others is answered as if alone.
func TestPumpsOfManyAtOnce(t *testing.T) {
	var all sync.WaitGroup
	for i := range 16 {
		all.Go(func() {
			p, _ := impl.Take(impl.PumpNew(), basalOf(i+1, 20, 100))
			for range 20*100/(i+1) + 1 {
				p = impl.Give(p, impl.Wants(p))
			}
			if p.State != impl.PumpKeep || p.Given != 100 || !impl.PumpOk(p) {
				t.Errorf("behind %d by 20 a tick the pump is %+v", i+1, p)
			}
		})
	}
	all.Wait()
}
