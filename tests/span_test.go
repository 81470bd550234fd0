package tests

import (
	"math"
	"testing"

	"loop.example/g00200/impl"
)

// guarded is a guard with all that it let through, the first tick first.
type guarded struct {
	guard impl.Guard
	given []int
}

// tick asks for n; what is allowed is let through.
func (g *guarded) tick(n int) int {
	allowed := impl.Allow(g.guard, n)
	g.guard = impl.Pass(g.guard, allowed)
	g.given = append(g.given, allowed)
	return allowed
}

// lastOf sums the last ticks of what was given, many of them or as many as there are.
func lastOf(given []int, many int) int {
	sum := 0
	for _, n := range given[max(len(given)-many, 0):] {
		sum += n
	}
	return sum
}

// wantSpan asks that no more than SpanMost went through in a span, and that the guard tells of it what was given.
func (g *guarded) wantSpan(t *testing.T) {
	t.Helper()
	if sum := lastOf(g.given, 10); sum > 30 {
		t.Fatalf("ten ticks let %d through: %v", sum, g.given)
	}
	if !impl.GuardOk(g.guard) || len(g.guard.Past) != min(len(g.given), 9) {
		t.Fatalf("behind %d ticks the guard is %+v", len(g.given), g.guard)
	}
	for place, n := range g.guard.Past {
		if n != g.given[len(g.given)-1-place] {
			t.Fatalf("the guard tells %v of %v", g.guard.Past, g.given)
		}
	}
}

func TestTheTenthTickHasRoomAgain(t *testing.T) {
	for first := 0; first <= 30; first++ {
		var g guarded
		g.tick(first)
		for range 9 {
			wantRoom(t, g.guard, 30-first)
			wantAllow(t, g.guard, 31, 30-first)
			g.tick(0)
			g.wantSpan(t)
		}
		wantRoom(t, g.guard, 30)
		wantAllow(t, g.guard, 31, 30)
	}
}

// What is asked for without end comes in the first tick, and then once in each Span ticks.
func TestAllOfTheRoomOnceInASpan(t *testing.T) {
	var g guarded
	for tick := range 200 {
		want := 0
		if tick%10 == 0 {
			want = 30
		}
		if got := g.tick(math.MaxInt); got != want {
			t.Fatalf("tick %d let %d through", tick, got)
		}
		g.wantSpan(t)
	}
}

// What goes out of the span is just what may come.
func TestEvenTicks(t *testing.T) {
	for n := 0; n <= 30; n++ {
		var g guarded
		for tick := range 60 {
			want := min(n, 30-lastOf(g.given, 9))
			if got := g.tick(n); got != want {
				t.Fatalf("of %d each, tick %d let %d through, want %d", n, tick, got, want)
			}
			g.wantSpan(t)
			if n <= 3 && g.given[tick] != n {
				t.Fatalf("of %d each, tick %d let %d through", n, tick, g.given[tick])
			}
		}
	}
}

func TestTicksOfEveryPattern(t *testing.T) {
	for size := 1; size <= 6; size++ {
		listsOf(size, []int{-1, 0, 1, 7, 30}, func(pattern []int) {
			var g guarded
			for tick := range 24 {
				g.tick(pattern[tick%size])
				g.wantSpan(t)
			}
		})
	}
}

// Pass alone keeps the limit, too, whatever it is told, and be there an alarm or not.
func TestPassAloneKeepsTheLimit(t *testing.T) {
	d := drawer(160)
	numbers := numbersToPass()
	for range 300 {
		g := guarded{guard: guardOf(d.below(16))}
		for range 60 {
			room := 30 - lastOf(g.given, 9)
			n := numbers[d.below(len(numbers))]
			g.guard = impl.Pass(g.guard, n)
			g.given = append(g.given, min(max(n, 0), room))
			g.wantSpan(t)
		}
	}
}

func TestWhatWasFeltStaysTillItIsSeen(t *testing.T) {
	for first := range 16 {
		for second := range 16 {
			g := guarded{guard: guardOf(0, 5)}
			g.guard = impl.Feel(g.guard, first, false)
			for range 30 {
				g.guard = impl.Feel(g.guard, 0, false)
				if n := g.tick(3); g.guard.Alarm != first || (n == 0) != (first != 0) {
					t.Fatalf("%d was felt; the alarm is %d, and %d went through", first, g.guard.Alarm, n)
				}
			}
			g.guard = impl.Feel(g.guard, second, false)
			if g.guard.Alarm != first|second {
				t.Fatalf("%d and %d were felt; the alarm is %d", first, second, g.guard.Alarm)
			}
			g.guard = impl.Feel(g.guard, second, true)
			if n := impl.Allow(g.guard, 1); g.guard.Alarm != second || (n == 0) != (second != 0) {
				t.Fatalf("%d is felt and seen; the alarm is %d, and %d goes through", second, g.guard.Alarm, n)
			}
			g.guard = impl.Feel(g.guard, 0, true)
			wantAllow(t, g.guard, 3, 3)
		}
	}
}

// An alarm holds what is to come; ticks go by for all that, and make room.
func TestRoomBehindAnAlarm(t *testing.T) {
	for held := range 25 {
		var g guarded
		g.tick(20)
		g.tick(10)
		g.guard = impl.Feel(g.guard, impl.SenseDoor, false)
		for range held {
			if n := g.tick(9); n != 0 {
				t.Fatalf("%d went through with an alarm", n)
			}
			g.wantSpan(t)
		}
		want := 0
		if held >= 8 {
			want = 20
		}
		if held >= 9 {
			want = 30
		}
		g.guard = impl.Feel(g.guard, 0, true)
		wantAllow(t, g.guard, 99, want)
	}
}

func TestGuardsInDrawnLives(t *testing.T) {
	d := drawer(161)
	full, held, seen := 0, 0, 0
	for range 300 {
		var g guarded
		alarm := 0
		for range 200 {
			bits := 0
			if d.below(8) == 0 {
				bits = d.below(16)
			}
			isSeen := d.below(5) == 0
			if isSeen {
				alarm = 0
				seen++
			}
			alarm |= bits
			g.guard = impl.Feel(g.guard, bits, isSeen)
			asked := d.below(12) - 1
			want := min(max(asked, 0), 30-lastOf(g.given, 9))
			if want < asked {
				full++
			}
			if alarm != 0 {
				want = 0
				held++
			}
			if got := g.tick(asked); got != want || g.guard.Alarm != alarm {
				t.Fatalf("of %d it let %d through, want %d; the alarm is %d, want %d", asked, got, want, g.guard.Alarm, alarm)
			}
			g.wantSpan(t)
		}
	}
	if full < 1000 || held < 1000 || seen < 1000 {
		t.Errorf("%d were more than the room, %d held, %d seen", full, held, seen)
	}
}
