package tests

import (
	"math"
	"math/big"
	"slices"
	"testing"

	"loop.example/g00200/impl"
)

// noMsg stands around the messages of a line in its memory, where nothing may be written.
var noMsg = impl.Msg{Num: fence, Stamp: fence}

func fencedLine(msgs []impl.Msg, spare int) (impl.Line, []impl.Msg) {
	memory := slices.Repeat([]impl.Msg{noMsg}, 2+len(msgs)+spare)
	copy(memory[2:], msgs)
	return impl.Line{Msgs: memory[2 : 2+len(msgs)]}, memory
}

func queueOf(most int) impl.Port {
	return impl.Port{Kind: impl.PortQueue, From: 1, To: 2, Most: most}
}

func sampleOf(fresh int) impl.Port {
	return impl.Port{Kind: impl.PortSample, From: 4, To: 3, Most: 1, Fresh: fresh}
}

// someMsgs are messages no two of which are alike, in number or in stamp.
func someMsgs(size int) []impl.Msg {
	var out []impl.Msg
	for i := range size {
		out = append(out, impl.Msg{Num: 100 - 7*i, Stamp: 5 + 3*i})
	}
	return out
}

func rightPorts() []impl.Port {
	var out []impl.Port
	for from := 1; from <= 4; from++ {
		for to := 1; to <= 4; to++ {
			if from == to {
				continue
			}
			for most := 1; most <= 6; most++ {
				out = append(out, impl.Port{Kind: 1, From: from, To: to, Most: most})
			}
			for _, fresh := range []int{1, 2, 50, 99, 100} {
				out = append(out, impl.Port{Kind: 2, From: from, To: to, Most: 1, Fresh: fresh})
			}
		}
	}
	return out
}

func wrongPorts() []impl.Port {
	return []impl.Port{
		{},
		{Kind: 0, From: 1, To: 2, Most: 1}, {Kind: 3, From: 1, To: 2, Most: 1}, {Kind: -1, From: 1, To: 2, Most: 1},
		{Kind: 0, From: 1, To: 2, Most: 1, Fresh: 1}, {Kind: 3, From: 1, To: 2, Most: 1, Fresh: 1}, {Kind: -2, From: 1, To: 2, Most: 1, Fresh: 1},
		{Kind: math.MaxInt, From: 1, To: 2, Most: 1}, {Kind: math.MinInt, From: 1, To: 2, Most: 1},
		{Kind: 1, From: 0, To: 2, Most: 1}, {Kind: 1, From: 5, To: 2, Most: 1}, {Kind: 1, From: -1, To: 2, Most: 1},
		{Kind: 1, From: math.MaxInt, To: 2, Most: 1}, {Kind: 1, From: math.MinInt, To: 2, Most: 1},
		{Kind: 1, From: 1, To: 0, Most: 1}, {Kind: 1, From: 1, To: 5, Most: 1}, {Kind: 1, From: 1, To: -2, Most: 1},
		{Kind: 1, From: 1, To: math.MaxInt, Most: 1}, {Kind: 1, From: 1, To: math.MinInt, Most: 1},
		{Kind: 2, From: 0, To: 2, Most: 1, Fresh: 1}, {Kind: 2, From: 5, To: 2, Most: 1, Fresh: 1},
		{Kind: 2, From: 1, To: 0, Most: 1, Fresh: 1}, {Kind: 2, From: 1, To: 5, Most: 1, Fresh: 1},
		{Kind: 1, From: 1, To: 1, Most: 1}, {Kind: 1, From: 2, To: 2, Most: 6}, {Kind: 1, From: 4, To: 4, Most: 1},
		{Kind: 2, From: 1, To: 1, Most: 1, Fresh: 1}, {Kind: 2, From: 3, To: 3, Most: 1, Fresh: 100}, {Kind: 2, From: 4, To: 4, Most: 1, Fresh: 9},
		{Kind: 1, From: 0, To: 0, Most: 1}, {Kind: 1, From: 5, To: 5, Most: 1}, {Kind: 1, From: 5, To: 0, Most: 1},
		{Kind: 1, From: 1, To: 2, Most: 0}, {Kind: 1, From: 1, To: 2, Most: 7}, {Kind: 1, From: 1, To: 2, Most: -1},
		{Kind: 1, From: 1, To: 2, Most: math.MaxInt}, {Kind: 1, From: 1, To: 2, Most: math.MinInt},
		{Kind: 1, From: 1, To: 2, Most: 1, Fresh: 1}, {Kind: 1, From: 1, To: 2, Most: 6, Fresh: 100}, {Kind: 1, From: 1, To: 2, Most: 1, Fresh: -1},
		{Kind: 1, From: 1, To: 2, Most: 1, Fresh: math.MaxInt}, {Kind: 1, From: 1, To: 2, Most: 1, Fresh: math.MinInt},
		{Kind: 2, From: 1, To: 2, Most: 0, Fresh: 1}, {Kind: 2, From: 1, To: 2, Most: 2, Fresh: 1}, {Kind: 2, From: 1, To: 2, Most: 6, Fresh: 1},
		{Kind: 2, From: 1, To: 2, Most: -1, Fresh: 1}, {Kind: 2, From: 1, To: 2, Most: math.MaxInt, Fresh: 1}, {Kind: 2, From: 1, To: 2, Most: math.MinInt, Fresh: 1},
		{Kind: 2, From: 1, To: 2, Most: 1, Fresh: 0}, {Kind: 2, From: 1, To: 2, Most: 1, Fresh: 101}, {Kind: 2, From: 1, To: 2, Most: 1, Fresh: -1},
		{Kind: 2, From: 1, To: 2, Most: 1, Fresh: math.MaxInt}, {Kind: 2, From: 1, To: 2, Most: 1, Fresh: math.MinInt},
	}
}

func tellPortOk(p impl.Port) bool {
	parts := []int{1, 2, 3, 4}
	if !slices.Contains(parts, p.From) || !slices.Contains(parts, p.To) || p.From == p.To {
		return false
	}
	if p.Kind == 1 {
		return slices.Contains([]int{1, 2, 3, 4, 5, 6}, p.Most) && p.Fresh == 0
	}
	return p.Kind == 2 && p.Most == 1 && p.Fresh > 0 && p.Fresh < 101
}

type sent struct {
	msgs []impl.Msg
	code int
}

type taken struct {
	msgs []impl.Msg
	num  int
	code int
}

func tellSent(p impl.Port, msgs []impl.Msg, n int, time int) sent {
	one := impl.Msg{Num: n, Stamp: time}
	switch {
	case !tellPortOk(p):
		return sent{msgs, 1}
	case p.Kind == 2:
		return sent{[]impl.Msg{one}, 0}
	case len(msgs) >= p.Most:
		return sent{msgs, 1}
	}
	return sent{slices.Concat(msgs, []impl.Msg{one}), 0}
}

// isOldAt works without a highest number of its own, so that nothing goes round in it.
func isOldAt(fresh int, stamp int, time int) bool {
	above := new(big.Int).Sub(big.NewInt(int64(time)), big.NewInt(int64(stamp)))
	return above.Cmp(big.NewInt(int64(fresh))) > 0
}

func tellTaken(p impl.Port, msgs []impl.Msg, time int) taken {
	switch {
	case !tellPortOk(p) || len(msgs) == 0:
		return taken{msgs, 0, 2}
	case p.Kind == 1:
		return taken{msgs[1:], msgs[0].Num, 0}
	case isOldAt(p.Fresh, msgs[0].Stamp, time):
		return taken{msgs, msgs[0].Num, 3}
	}
	return taken{msgs, msgs[0].Num, 0}
}

func wantSent(t *testing.T, p impl.Port, msgs []impl.Msg, n int, time int, want sent) {
	t.Helper()
	line, code := impl.SendPort(p, impl.Line{Msgs: msgs}, n, time)
	if !slices.Equal(line.Msgs, want.msgs) || code != want.code {
		t.Fatalf("SendPort of %+v, %v, %d and %d = %v, %d, want %+v", p, msgs, n, time, line.Msgs, code, want)
	}
}

func wantTaken(t *testing.T, p impl.Port, msgs []impl.Msg, time int, want taken) {
	t.Helper()
	line, num, code := impl.TakePort(p, impl.Line{Msgs: msgs}, time)
	if !slices.Equal(line.Msgs, want.msgs) || num != want.num || code != want.code {
		t.Fatalf("TakePort of %+v, %v and %d = %v, %d, %d, want %+v", p, msgs, time, line.Msgs, num, code, want)
	}
}

func wantPort(t *testing.T, p impl.Port, want bool) {
	t.Helper()
	if got := impl.PortOk(p); got != want {
		t.Fatalf("PortOk(%+v) = %v", p, got)
	}
}

func TestConstantsOfPorts(t *testing.T) {
	if impl.PortQueue != 1 || impl.PortSample != 2 {
		t.Errorf("the kinds are %d and %d", impl.PortQueue, impl.PortSample)
	}
	for i, code := range []int{impl.CodeFine, impl.CodeFull, impl.CodeEmpty, impl.CodeOld} {
		if code != i {
			t.Errorf("the code of the place %d is %d", i, code)
		}
	}
}

func TestPortOk(t *testing.T) {
	for _, p := range rightPorts() {
		wantPort(t, p, true)
	}
	for _, p := range wrongPorts() {
		wantPort(t, p, false)
	}
}

func TestPortOkAtAllEdges(t *testing.T) {
	kinds := []int{math.MinInt, -1, 0, 1, 2, 3, math.MaxInt}
	parts := []int{math.MinInt, -1, 0, 1, 2, 3, 4, 5, math.MaxInt}
	mosts := []int{math.MinInt, -1, 0, 1, 2, 5, 6, 7, 100, math.MaxInt}
	freshes := []int{math.MinInt, -1, 0, 1, 2, 6, 99, 100, 101, math.MaxInt}
	right := 0
	for _, kind := range kinds {
		for _, from := range parts {
			for _, to := range parts {
				for _, most := range mosts {
					for _, fresh := range freshes {
						p := impl.Port{Kind: kind, From: from, To: to, Most: most, Fresh: fresh}
						wantPort(t, p, tellPortOk(p))
						if impl.PortOk(p) {
							right++
						}
					}
				}
			}
		}
	}
	// 12 pairs of parts: queues of 1, 2, 5 and 6, samples of 1, 2, 6, 99 and 100.
	if right != 12*(4+5) {
		t.Errorf("%d ports are right", right)
	}
}

func TestSendOverAQueue(t *testing.T) {
	first, second, third := impl.Msg{Num: 7, Stamp: 1}, impl.Msg{Num: 8, Stamp: 2}, impl.Msg{Num: 9, Stamp: 3}
	for _, c := range []struct {
		most int
		msgs []impl.Msg
		want []impl.Msg
		code int
	}{
		{1, nil, []impl.Msg{third}, 0},
		{1, []impl.Msg{}, []impl.Msg{third}, 0},
		{1, []impl.Msg{first}, []impl.Msg{first}, 1},
		{1, []impl.Msg{first, second}, []impl.Msg{first, second}, 1},
		{2, []impl.Msg{first}, []impl.Msg{first, third}, 0},
		{2, []impl.Msg{first, second}, []impl.Msg{first, second}, 1},
		{2, []impl.Msg{first, second, first}, []impl.Msg{first, second, first}, 1},
		{3, []impl.Msg{first, second}, []impl.Msg{first, second, third}, 0},
		{3, []impl.Msg{second, first}, []impl.Msg{second, first, third}, 0},
		{6, nil, []impl.Msg{third}, 0},
		{6, []impl.Msg{third, third}, []impl.Msg{third, third, third}, 0},
	} {
		wantSent(t, queueOf(c.most), c.msgs, third.Num, third.Stamp, sent{c.want, c.code})
	}
}

func TestSendOverQueuesOfEverySize(t *testing.T) {
	for most := 1; most <= 6; most++ {
		for size := range 12 {
			msgs := someMsgs(size)
			want := sent{msgs, 1}
			if size < most {
				want = sent{slices.Concat(msgs, []impl.Msg{{Num: -3, Stamp: 4}}), 0}
			}
			wantSent(t, queueOf(most), msgs, -3, 4, want)
		}
	}
}

func TestNumbersAndTimesAreSentAsTheyAre(t *testing.T) {
	numbers := append([]int{0, 1, -1, 65535, 65536, 65537, -65536, math.MaxInt, math.MinInt}, numbersToHold()...)
	for _, n := range numbers {
		for _, time := range numbers {
			one := impl.Msg{Num: n, Stamp: time}
			wantSent(t, queueOf(3), someMsgs(2), n, time, sent{append(someMsgs(2), one), 0})
			wantSent(t, sampleOf(9), someMsgs(1), n, time, sent{[]impl.Msg{one}, 0})
			wantTaken(t, queueOf(3), []impl.Msg{one}, time, taken{nil, n, 0})
			wantTaken(t, sampleOf(9), []impl.Msg{one}, time, taken{[]impl.Msg{one}, n, 0})
		}
	}
}

func TestSendOverASample(t *testing.T) {
	for _, fresh := range []int{1, 2, 50, 99, 100} {
		for size := range 9 {
			wantSent(t, sampleOf(fresh), someMsgs(size), 77, 3, sent{[]impl.Msg{{Num: 77, Stamp: 3}}, 0})
		}
	}
	// A later one stands in the place of an earlier one, whatever their times and numbers are.
	for _, old := range []impl.Msg{{}, {Num: 77, Stamp: 3}, {Num: 78, Stamp: 1000}, {Num: math.MaxInt, Stamp: math.MaxInt}, {Num: math.MinInt, Stamp: math.MinInt}} {
		wantSent(t, sampleOf(1), []impl.Msg{old}, 77, 3, sent{[]impl.Msg{{Num: 77, Stamp: 3}}, 0})
	}
}

func TestTakeFromAQueue(t *testing.T) {
	for _, time := range []int{math.MinInt, -1, 0, 1, 5, 6, 7, 100, 1000, math.MaxInt} {
		for most := 1; most <= 6; most++ {
			wantTaken(t, queueOf(most), nil, time, taken{nil, 0, 2})
			wantTaken(t, queueOf(most), []impl.Msg{}, time, taken{nil, 0, 2})
			wantTaken(t, queueOf(most), []impl.Msg{{Num: 4, Stamp: 9}}, time, taken{nil, 4, 0})
			for size := 1; size < 12; size++ {
				msgs := someMsgs(size)
				wantTaken(t, queueOf(most), msgs, time, taken{someMsgs(size)[1:], 100, 0})
			}
		}
	}
	// What is taken may be 0, and is there for all that.
	wantTaken(t, queueOf(1), []impl.Msg{{}}, 0, taken{nil, 0, 0})
	wantTaken(t, queueOf(2), []impl.Msg{{}, {}}, 0, taken{[]impl.Msg{{}}, 0, 0})
}

func TestTakeFromASample(t *testing.T) {
	for _, c := range []struct {
		fresh, stamp, time int
		code               int
	}{
		{1, 0, 0, 0}, {1, 0, 1, 0}, {1, 0, 2, 3}, {1, 0, 3, 3}, {1, 0, -1, 0}, {1, 0, -1000, 0},
		{1, 50, 49, 0}, {1, 50, 50, 0}, {1, 50, 51, 0}, {1, 50, 52, 3},
		{5, 10, 14, 0}, {5, 10, 15, 0}, {5, 10, 16, 3},
		{99, 1, 100, 0}, {99, 1, 101, 3}, {100, 1, 100, 0}, {100, 1, 101, 0}, {100, 1, 102, 3},
		{100, -50, 49, 0}, {100, -50, 50, 0}, {100, -50, 51, 3}, {10, -100, -91, 0}, {10, -100, -90, 0}, {10, -100, -89, 3},
		{1, math.MaxInt, math.MaxInt, 0}, {1, math.MaxInt, math.MinInt, 0}, {1, math.MaxInt, 0, 0}, {1, math.MaxInt, -1, 0}, {1, math.MaxInt, -2, 0},
		{100, math.MaxInt, math.MaxInt, 0}, {100, math.MaxInt, math.MinInt, 0}, {100, math.MaxInt, math.MinInt + 99, 0},
		{1, math.MaxInt - 1, math.MaxInt, 0}, {1, math.MaxInt - 2, math.MaxInt, 3},
		{100, math.MaxInt - 100, math.MaxInt, 0}, {100, math.MaxInt - 101, math.MaxInt, 3}, {100, math.MaxInt - 99, math.MaxInt, 0},
		{1, math.MinInt, math.MinInt, 0}, {1, math.MinInt, math.MinInt + 1, 0}, {1, math.MinInt, math.MinInt + 2, 3},
		{100, math.MinInt, math.MinInt + 99, 0}, {100, math.MinInt, math.MinInt + 100, 0}, {100, math.MinInt, math.MinInt + 101, 3},
		{100, math.MinInt + 1, math.MinInt, 0}, {100, math.MinInt + 50, math.MinInt + 60, 0},
		{1, math.MinInt, -1, 3}, {1, math.MinInt, 0, 3}, {1, math.MinInt, 1, 3}, {1, math.MinInt, math.MaxInt, 3},
		{100, math.MinInt, -1, 3}, {100, math.MinInt, 0, 3}, {100, math.MinInt, 100, 3}, {100, math.MinInt, math.MaxInt, 3},
		{100, -1, math.MaxInt, 3}, {100, 0, math.MaxInt, 3}, {100, -2, math.MaxInt, 3}, {100, 0, math.MinInt, 0}, {100, 1, math.MinInt, 0},
	} {
		for _, n := range []int{0, 7, -7, math.MaxInt, math.MinInt} {
			msgs := []impl.Msg{{Num: n, Stamp: c.stamp}}
			wantTaken(t, sampleOf(c.fresh), msgs, c.time, taken{msgs, n, c.code})
		}
	}
	wantTaken(t, sampleOf(1), nil, 0, taken{nil, 0, 2})
	wantTaken(t, sampleOf(100), []impl.Msg{}, math.MaxInt, taken{nil, 0, 2})
}

func TestSamplesOfEveryFreshness(t *testing.T) {
	stamps := []int{0, 1, -1, 100, -100, 1000, math.MaxInt, math.MaxInt - 1, math.MaxInt - 50, math.MaxInt - 100, math.MaxInt - 101, math.MinInt, math.MinInt + 1, math.MinInt + 100}
	for fresh := 1; fresh <= 100; fresh++ {
		for _, stamp := range stamps {
			msgs := []impl.Msg{{Num: 12, Stamp: stamp}}
			// The sums may go round, as they would in a program that doesn't look out for it.
			for _, time := range []int{stamp, stamp - 1, stamp + 1, stamp + fresh - 1, stamp + fresh, stamp + fresh + 1, stamp - fresh, stamp - fresh - 1, math.MaxInt, math.MinInt, 0} {
				wantTaken(t, sampleOf(fresh), msgs, time, tellTaken(sampleOf(fresh), msgs, time))
			}
		}
	}
}

func TestSamplesStay(t *testing.T) {
	p := sampleOf(3)
	line, _ := impl.SendPort(p, impl.Line{Msgs: someMsgs(4)}, 41, 10)
	for time := 5; time < 30; time++ {
		num, code := 0, 0
		line, num, code = impl.TakePort(p, line, time)
		want := impl.CodeFine
		if time > 13 {
			want = impl.CodeOld
		}
		if num != 41 || code != want || len(line.Msgs) != 1 {
			t.Fatalf("at %d a sample is %d, %d, and %v stays", time, num, code, line.Msgs)
		}
	}
	// An old one is as good as new ahead of the time at which it grew old, and a new one stands in its place.
	wantTaken(t, p, line.Msgs, 13, taken{line.Msgs, 41, 0})
	line, _ = impl.SendPort(p, line, 42, 30)
	wantTaken(t, p, line.Msgs, 33, taken{line.Msgs, 42, 0})
	wantTaken(t, p, line.Msgs, 34, taken{line.Msgs, 42, 3})
}

// A line of several that is handed in for a sample stays as a whole; it is the first one that is told.
func TestSampleFromALineOfSeveral(t *testing.T) {
	for size := 2; size < 9; size++ {
		msgs := someMsgs(size)
		wantTaken(t, sampleOf(3), msgs, 8, taken{msgs, 100, 0})
		wantTaken(t, sampleOf(3), msgs, 9, taken{msgs, 100, 3})
	}
}

func TestPortsThatAreNotRight(t *testing.T) {
	for _, p := range wrongPorts() {
		for size := range 9 {
			msgs := someMsgs(size)
			for _, time := range []int{0, 5, 1000, math.MaxInt, math.MinInt} {
				wantSent(t, p, msgs, 3, time, sent{msgs, 1})
				wantTaken(t, p, msgs, time, taken{msgs, 0, 2})
			}
		}
	}
}

func TestQueuesKeepTheirOrder(t *testing.T) {
	for most := 1; most <= 6; most++ {
		d := drawer(most)
		p := queueOf(most)
		var line impl.Line
		var waiting []impl.Msg
		full, empty := 0, 0
		for time := range 3000 {
			code := 0
			if d.below(2) == 0 {
				n := d.below(1000) - 500
				line, code = impl.SendPort(p, line, n, time)
				if (code == impl.CodeFine) != (len(waiting) < most) {
					t.Fatalf("a queue of %d with %v: sent with %d", most, waiting, code)
				}
				if code == impl.CodeFine {
					waiting = append(waiting, impl.Msg{Num: n, Stamp: time})
				} else {
					full++
				}
			} else {
				num := 0
				line, num, code = impl.TakePort(p, line, time)
				if len(waiting) == 0 {
					empty++
					if num != 0 || code != impl.CodeEmpty {
						t.Fatalf("an empty queue of %d gave %d with %d", most, num, code)
					}
				} else {
					if num != waiting[0].Num || code != impl.CodeFine {
						t.Fatalf("a queue of %d with %v gave %d with %d", most, waiting, num, code)
					}
					waiting = waiting[1:]
				}
			}
			if !slices.Equal(line.Msgs, waiting) {
				t.Fatalf("a queue of %d holds %v, want %v", most, line.Msgs, waiting)
			}
		}
		if full == 0 || empty == 0 {
			t.Errorf("a queue of %d was never full, or never empty", most)
		}
	}
}

func TestASampleIsTheLastOneSent(t *testing.T) {
	for _, fresh := range []int{1, 7, 100} {
		d := drawer(fresh)
		p := sampleOf(fresh)
		var line impl.Line
		last := impl.Msg{Num: 3}
		line, _ = impl.SendPort(p, line, last.Num, last.Stamp)
		old := 0
		for time := 0; time < 100000; time += d.below(fresh + 2) {
			if d.below(3) == 0 {
				last = impl.Msg{Num: d.below(1000), Stamp: time}
				line, _ = impl.SendPort(p, line, last.Num, last.Stamp)
			}
			num, code := 0, 0
			line, num, code = impl.TakePort(p, line, time)
			if num != last.Num || (code == impl.CodeOld) != (time > last.Stamp+fresh) || code != impl.CodeOld && code != impl.CodeFine {
				t.Fatalf("at %d the sample %v of %d is %d, %d", time, last, fresh, num, code)
			}
			if code == impl.CodeOld {
				old++
			}
		}
		if old == 0 {
			t.Errorf("no sample of %d grew old", fresh)
		}
	}
}

func TestPortsOfDrawnArguments(t *testing.T) {
	d := drawer(8)
	edges := append([]int{0, 1, 2, 3, 4, 5, 6, 7, 50, 99, 100, 101, -1, -2}, timeEdges...)
	edge := func() int { return edges[d.below(len(edges))] }
	for range 300000 {
		p := impl.Port{Kind: 1 + d.below(2), From: 1 + d.below(4), To: 1 + d.below(4), Most: 1 + d.below(6)}
		if p.Kind == 2 {
			p.Most, p.Fresh = 1, 1+d.below(100)
		}
		switch d.below(40) {
		case 0:
			p.Kind = edge()
		case 1:
			p.From = edge()
		case 2:
			p.To = edge()
		case 3:
			p.Most = edge()
		case 4:
			p.Fresh = edge()
		}
		var msgs []impl.Msg
		for range d.below(9) {
			msgs = append(msgs, impl.Msg{Num: edge(), Stamp: edge()})
		}
		n, time := edge(), edge()
		wantPort(t, p, tellPortOk(p))
		wantSent(t, p, msgs, n, time, tellSent(p, msgs, n, time))
		wantTaken(t, p, msgs, time, tellTaken(p, msgs, time))
	}
}

// wantLineApart spoils an answer, and asks whether anything that was handed in, or that lies around it, is spoilt by it.
func wantLineApart(t *testing.T, what string, memory []impl.Msg, before []impl.Msg, answer impl.Line) {
	t.Helper()
	if !slices.Equal(memory, before) {
		t.Fatalf("%s wrote into what was handed in: %v, was %v", what, memory, before)
	}
	whole := answer.Msgs[:cap(answer.Msgs)]
	for i := range whole {
		whole[i] = impl.Msg{Num: 31337, Stamp: 31337}
	}
	if !slices.Equal(memory, before) {
		t.Fatalf("%s shares memory with what was handed in", what)
	}
}

func TestPortsShareNoMemory(t *testing.T) {
	ports := slices.Concat(wrongPorts(), []impl.Port{queueOf(1), queueOf(3), queueOf(6), sampleOf(1), sampleOf(100)})
	for _, p := range ports {
		for size := range 9 {
			for _, spare := range []int{0, 1, 5} {
				line, memory := fencedLine(someMsgs(size), spare)
				before := slices.Clone(memory)
				answer, _ := impl.SendPort(p, line, 1, 2)
				wantLineApart(t, "SendPort", memory, before, answer)
				for _, time := range []int{0, 1000} {
					answer, _, _ = impl.TakePort(p, line, time)
					wantLineApart(t, "TakePort", memory, before, answer)
				}
			}
		}
	}
}

// Two lines that come of one don't meet in the room behind it.
func TestLinesOfOneLineStayApart(t *testing.T) {
	start := impl.Line{Msgs: slices.Grow(someMsgs(2), 8)}
	one, _ := impl.SendPort(queueOf(6), start, 1, 1)
	two, _ := impl.SendPort(queueOf(6), start, 2, 2)
	three, _ := impl.SendPort(queueOf(6), one, 3, 3)
	four, _ := impl.SendPort(queueOf(6), one, 4, 4)
	five, _, _ := impl.TakePort(queueOf(6), three, 0)
	six, _ := impl.SendPort(queueOf(6), five, 6, 6)
	for _, c := range []struct {
		line impl.Line
		want []impl.Msg
	}{
		{start, someMsgs(2)},
		{one, append(someMsgs(2), impl.Msg{Num: 1, Stamp: 1})},
		{two, append(someMsgs(2), impl.Msg{Num: 2, Stamp: 2})},
		{three, append(someMsgs(2), impl.Msg{Num: 1, Stamp: 1}, impl.Msg{Num: 3, Stamp: 3})},
		{four, append(someMsgs(2), impl.Msg{Num: 1, Stamp: 1}, impl.Msg{Num: 4, Stamp: 4})},
		{five, append(someMsgs(2)[1:], impl.Msg{Num: 1, Stamp: 1}, impl.Msg{Num: 3, Stamp: 3})},
		{six, append(someMsgs(2)[1:], impl.Msg{Num: 1, Stamp: 1}, impl.Msg{Num: 3, Stamp: 3}, impl.Msg{Num: 6, Stamp: 6})},
	} {
		if !slices.Equal(c.line.Msgs, c.want) {
			t.Errorf("a line is %v, want %v", c.line.Msgs, c.want)
		}
	}
}

func TestPortsAreAnsweredAlike(t *testing.T) {
	ports := []impl.Port{queueOf(2), {}, sampleOf(4), queueOf(6), {Kind: 3}, sampleOf(100)}
	for range 3 {
		for _, p := range ports {
			for size := range 8 {
				msgs := someMsgs(size)
				wantPort(t, p, tellPortOk(p))
				wantSent(t, p, msgs, 5, 6, tellSent(p, msgs, 5, 6))
				wantTaken(t, p, msgs, 9, tellTaken(p, msgs, 9))
				wantTaken(t, p, msgs, 10, tellTaken(p, msgs, 10))
			}
		}
	}
}
