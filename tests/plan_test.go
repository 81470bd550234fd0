package tests

import (
	"math"
	"math/big"
	"slices"
	"sync"
	"testing"
	"testing/synctest"

	"loop.example/g00200/impl"
)

// noWindow stands around the windows of a list in its memory, where nothing may be written.
var noWindow = impl.Window{Part: fence, Budget: fence}

func fencedWindows(list []impl.Window, spare int) ([]impl.Window, []impl.Window) {
	memory := slices.Repeat([]impl.Window{noWindow}, 2+len(list)+spare)
	copy(memory[2:], list)
	return memory[2 : 2+len(list)], memory
}

// somePlan has windows no two neighbours of which are of one part, and no two of which have one budget.
func somePlan(size int) []impl.Window {
	var out []impl.Window
	for i := range size {
		out = append(out, impl.Window{Part: 1 + i%4, Budget: 10 + 3*i})
	}
	return out
}

func rightPlans() [][]impl.Window {
	out := [][]impl.Window{
		{{Part: 1, Budget: 1}}, {{Part: 4, Budget: 200}}, {{Part: 2, Budget: 200}, {Part: 2, Budget: 1}},
		{{Part: 3, Budget: 7}, {Part: 3, Budget: 7}, {Part: 3, Budget: 7}},
		slices.Repeat([]impl.Window{{Part: 4, Budget: 200}}, 12), slices.Repeat([]impl.Window{{Part: 1, Budget: 1}}, 12),
	}
	for size := 1; size <= 12; size++ {
		out = append(out, somePlan(size))
	}
	return out
}

func wrongWindows() []impl.Window {
	out := []impl.Window{{}, {Part: 0, Budget: 0}, {Part: 5, Budget: 201}, {Part: 7, Budget: 3}, {Part: 200, Budget: 4}}
	for _, part := range []int{0, 5, 6, -1, -4, math.MaxInt, math.MinInt} {
		out = append(out, impl.Window{Part: part, Budget: 1}, impl.Window{Part: part, Budget: 200})
	}
	for _, budget := range []int{0, 201, 202, -1, -200, math.MaxInt, math.MinInt} {
		out = append(out, impl.Window{Part: 1, Budget: budget}, impl.Window{Part: 4, Budget: budget})
	}
	return out
}

// wrongPlans have one fault each: none or too many windows, or one that is not right, at the first, at a middle or at the last place.
func wrongPlans() [][]impl.Window {
	out := [][]impl.Window{nil, {}, somePlan(13), somePlan(14), somePlan(24), somePlan(1000), slices.Repeat([]impl.Window{{Part: 1, Budget: 1}}, 13)}
	for _, w := range wrongWindows() {
		for size := 1; size <= 12; size++ {
			for _, at := range []int{0, size / 2, size - 1} {
				list := somePlan(size)
				list[at] = w
				out = append(out, list)
			}
		}
	}
	return out
}

func tellPlanOk(list []impl.Window) bool {
	isWrong := func(w impl.Window) bool {
		return !slices.Contains([]int{1, 2, 3, 4}, w.Part) || w.Budget < 1 || w.Budget > 200
	}
	return len(list) > 0 && len(list) < 13 && !slices.ContainsFunc(list, isWrong)
}

// tellWindow goes round by numbers without a highest one.
func tellWindow(list []impl.Window, n int) impl.Window {
	if n < 0 || !tellPlanOk(list) {
		return impl.Window{}
	}
	place := new(big.Int).Mod(big.NewInt(int64(n)), big.NewInt(int64(len(list))))
	return list[place.Int64()]
}

func tellTime(list []impl.Window, part int) int {
	sum := 0
	for i := range list {
		if list[i].Part == part {
			sum += list[i].Budget
		}
	}
	return sum
}

type harmony struct {
	plan []impl.Window
	ok   bool
}

// tellHarmonic writes down for each part at which turns it comes, and divides nothing.
func tellHarmonic(periods []int, budgets []int) harmony {
	if len(periods) < 1 || len(periods) > 4 || len(budgets) != len(periods) {
		return harmony{}
	}
	greatest := 0
	for i := range periods {
		if periods[i] < 1 || periods[i] > 8 || budgets[i] < 1 || budgets[i] > 200 {
			return harmony{}
		}
		greatest = max(greatest, periods[i])
	}
	turns := make([][]impl.Window, greatest)
	for i := range periods {
		turn := 0
		for ; turn < greatest; turn += periods[i] {
			turns[turn] = append(turns[turn], impl.Window{Part: i + 1, Budget: budgets[i]})
		}
		if turn != greatest {
			return harmony{}
		}
	}
	plan := slices.Concat(turns...)
	if len(plan) > 12 {
		return harmony{}
	}
	return harmony{plan, true}
}

func wantPlan(t *testing.T, list []impl.Window, want bool) {
	t.Helper()
	if got := impl.PlanOk(list); got != want {
		t.Fatalf("PlanOk of %d (%.200v) = %v", len(list), list, got)
	}
}

func wantWindow(t *testing.T, list []impl.Window, n int, want impl.Window) {
	t.Helper()
	if got := impl.WindowAt(list, n); got != want {
		t.Fatalf("WindowAt of %d (%.200v) and %d = %v, want %v", len(list), list, n, got, want)
	}
}

func wantTime(t *testing.T, list []impl.Window, part int, want int) {
	t.Helper()
	if got := impl.TimeOf(list, part); got != want {
		t.Fatalf("TimeOf of %d (%.200v) and %d = %d, want %d", len(list), list, part, got, want)
	}
}

func wantHarmonic(t *testing.T, periods []int, budgets []int, want harmony) {
	t.Helper()
	plan, ok := impl.Harmonic(periods, budgets)
	if !slices.Equal(plan, want.plan) || ok != want.ok {
		t.Fatalf("Harmonic of %.90v and %.90v = %v, %v, want %v", periods, budgets, plan, ok, want)
	}
}

// ofParts are windows of these parts, in order; the part 1 has the first budget.
func ofParts(budgets []int, parts ...int) harmony {
	out := harmony{ok: true}
	for _, part := range parts {
		out.plan = append(out.plan, impl.Window{Part: part, Budget: budgets[part-1]})
	}
	return out
}

// listsOf visits all lists of so many numbers, each of these.
func listsOf(size int, numbers []int, visit func(list []int)) {
	if size == 0 {
		visit(nil)
		return
	}
	listsOf(size-1, numbers, func(list []int) {
		for _, n := range numbers {
			visit(append(slices.Clone(list), n))
		}
	})
}

func TestConstantsOfPlans(t *testing.T) {
	if impl.MaxWindows != 12 {
		t.Errorf("MaxWindows is %d", impl.MaxWindows)
	}
}

func TestPlanOk(t *testing.T) {
	for _, list := range rightPlans() {
		wantPlan(t, list, true)
	}
	for _, list := range wrongPlans() {
		wantPlan(t, list, false)
	}
}

func TestPlansOfEverySize(t *testing.T) {
	wantPlan(t, nil, false)
	wantPlan(t, []impl.Window{}, false)
	for size := range 40 {
		wantPlan(t, somePlan(size), size >= 1 && size <= 12)
	}
}

func TestPlansOfEveryWindow(t *testing.T) {
	parts := []int{math.MinInt, -1, 0, 1, 2, 3, 4, 5, math.MaxInt}
	budgets := []int{math.MinInt, -1, 0, 1, 2, 100, 199, 200, 201, math.MaxInt}
	right := 0
	for _, part := range parts {
		for _, budget := range budgets {
			for _, size := range []int{1, 2, 7, 12} {
				for at := range size {
					list := somePlan(size)
					list[at] = impl.Window{Part: part, Budget: budget}
					wantPlan(t, list, tellPlanOk(list))
					if size == 1 && impl.PlanOk(list) {
						right++
					}
				}
			}
		}
	}
	// 4 parts, with the budgets 1, 2, 100, 199 and 200.
	if right != 4*5 {
		t.Errorf("%d windows are right", right)
	}
	for budget := 1; budget <= 200; budget++ {
		wantPlan(t, []impl.Window{{Part: 1 + budget%4, Budget: budget}}, true)
	}
}

func TestWindowAt(t *testing.T) {
	a, b, c := impl.Window{Part: 3, Budget: 1}, impl.Window{Part: 1, Budget: 200}, impl.Window{Part: 3, Budget: 9}
	list := []impl.Window{a, b, c}
	for _, one := range []struct {
		n    int
		want impl.Window
	}{
		{0, a}, {1, b}, {2, c}, {3, a}, {4, b}, {5, c}, {6, a}, {7, b}, {299, c}, {300, a}, {301, b}, {3000000000, a},
		{-1, impl.Window{}}, {-2, impl.Window{}}, {-3, impl.Window{}}, {-4, impl.Window{}}, {-300, impl.Window{}},
		{math.MaxInt, b}, {math.MaxInt - 1, a}, {math.MaxInt - 2, c}, {math.MinInt, impl.Window{}}, {math.MinInt + 1, impl.Window{}},
	} {
		wantWindow(t, list, one.n, one.want)
	}
	for _, n := range []int{0, 1, 2, 11, 12, 13, 1000000007, math.MaxInt - 1, math.MaxInt} {
		wantWindow(t, []impl.Window{b}, n, b)
	}
	for _, n := range []int{-1, -2, math.MinInt} {
		wantWindow(t, []impl.Window{b}, n, impl.Window{})
	}
}

func placesInPlan(size int) []int {
	out := []int{math.MinInt, math.MinInt + 1, -13, -12, -1, 0, 1, math.MaxInt - 12, math.MaxInt - 1, math.MaxInt}
	for round := 1; round <= 5; round++ {
		out = append(out, round*size-1, round*size, round*size+1, -round*size, 1-round*size)
	}
	return out
}

func TestWindowAtOfEverySize(t *testing.T) {
	for _, list := range rightPlans() {
		for _, n := range placesInPlan(len(list)) {
			wantWindow(t, list, n, tellWindow(list, n))
		}
		for n := range 100 {
			wantWindow(t, list, n, tellWindow(list, n))
		}
	}
}

// One window that is not right spoils the whole plan: no other one of it is told, either.
func TestWindowAtOfPlansThatAreNotRight(t *testing.T) {
	for _, list := range wrongPlans() {
		for _, n := range placesInPlan(len(list)) {
			wantWindow(t, list, n, impl.Window{})
		}
	}
}

func TestTimeOf(t *testing.T) {
	list := []impl.Window{{Part: 2, Budget: 5}, {Part: 1, Budget: 200}, {Part: 2, Budget: 1}, {Part: 4, Budget: 7}, {Part: 2, Budget: 30}}
	for _, c := range []struct{ part, want int }{
		{1, 200}, {2, 36}, {3, 0}, {4, 7}, {0, 0}, {5, 0}, {-1, 0}, {-2, 0}, {math.MaxInt, 0}, {math.MinInt, 0},
	} {
		wantTime(t, list, c.part, c.want)
		wantTime(t, nil, c.part, 0)
		wantTime(t, []impl.Window{}, c.part, 0)
	}
	wantTime(t, []impl.Window{{Part: 3, Budget: 4}}, 3, 4)
	wantTime(t, slices.Repeat([]impl.Window{{Part: 4, Budget: 200}}, 12), 4, 2400)
	for _, list := range rightPlans() {
		all := 0
		for part := -1; part <= 6; part++ {
			wantTime(t, list, part, tellTime(list, part))
			all += impl.TimeOf(list, part)
		}
		sum := 0
		for _, w := range list {
			sum += w.Budget
		}
		if all != sum {
			t.Fatalf("the times of all parts of %v are %d, its budgets %d", list, all, sum)
		}
	}
}

// A sum is told of any list, and of any number as a part.
func TestTimeOfListsThatAreNoPlans(t *testing.T) {
	for _, c := range []struct {
		list []impl.Window
		part int
		want int
	}{
		{[]impl.Window{{}}, 0, 0},
		{[]impl.Window{{Part: 0, Budget: 5}, {Part: 1, Budget: 6}, {Part: 0, Budget: 7}}, 0, 12},
		{[]impl.Window{{Part: 0, Budget: 5}, {Part: 1, Budget: 6}, {Part: 0, Budget: 7}}, 1, 6},
		{[]impl.Window{{Part: 5, Budget: 5}, {Part: 5, Budget: 6}}, 5, 11},
		{[]impl.Window{{Part: -1, Budget: 5}, {Part: 1, Budget: 6}}, -1, 5},
		{[]impl.Window{{Part: 1, Budget: 201}, {Part: 1, Budget: 1000}}, 1, 1201},
		{[]impl.Window{{Part: 1, Budget: 9}, {Part: 1, Budget: -20}, {Part: 2, Budget: -3}}, 1, -11},
		{[]impl.Window{{Part: 1, Budget: 0}, {Part: 2, Budget: 8}}, 1, 0},
		{[]impl.Window{{Part: math.MaxInt, Budget: 3}, {Part: math.MinInt, Budget: 4}}, math.MaxInt, 3},
		{[]impl.Window{{Part: math.MaxInt, Budget: 3}, {Part: math.MinInt, Budget: 4}}, math.MinInt, 4},
		{[]impl.Window{{Part: 2, Budget: math.MaxInt}}, 2, math.MaxInt},
		{[]impl.Window{{Part: 2, Budget: math.MinInt}}, 2, math.MinInt},
		{[]impl.Window{{Part: 2, Budget: math.MaxInt}, {Part: 2, Budget: math.MinInt}}, 2, -1},
		{[]impl.Window{{Part: 2, Budget: impl.Big}, {Part: 2, Budget: impl.Big}}, 2, 2 * impl.Big},
		{slices.Repeat([]impl.Window{{Part: 3, Budget: 200}}, 13), 3, 2600},
		{slices.Repeat([]impl.Window{{Part: 3, Budget: 200}, {Part: 4, Budget: 1}}, 5000), 3, 1000000},
	} {
		wantTime(t, c.list, c.part, c.want)
	}
	for _, list := range wrongPlans() {
		for part := -2; part <= 7; part++ {
			wantTime(t, list, part, tellTime(list, part))
		}
	}
}

func TestHarmonic(t *testing.T) {
	budgets := []int{5, 200, 1, 40}
	for _, c := range []struct {
		periods []int
		parts   []int
	}{
		{[]int{1}, []int{1}}, {[]int{2}, []int{1}}, {[]int{7}, []int{1}}, {[]int{8}, []int{1}},
		{[]int{1, 1}, []int{1, 2}}, {[]int{8, 8}, []int{1, 2}}, {[]int{5, 5, 5}, []int{1, 2, 3}},
		{[]int{1, 1, 1, 1}, []int{1, 2, 3, 4}}, {[]int{3, 3, 3, 3}, []int{1, 2, 3, 4}}, {[]int{8, 8, 8, 8}, []int{1, 2, 3, 4}},
		{[]int{1, 2}, []int{1, 2, 1}}, {[]int{2, 1}, []int{1, 2, 2}},
		{[]int{1, 3}, []int{1, 2, 1, 1}}, {[]int{3, 1}, []int{1, 2, 2, 2}}, {[]int{8, 4}, []int{1, 2, 2}}, {[]int{2, 8}, []int{1, 2, 1, 1, 1}},
		{[]int{1, 2, 4}, []int{1, 2, 3, 1, 1, 2, 1}}, {[]int{4, 2, 1}, []int{1, 2, 3, 3, 2, 3, 3}}, {[]int{2, 4, 1}, []int{1, 2, 3, 3, 1, 3, 3}},
		// Two of these don't divide each other, but both divide the greatest one.
		{[]int{2, 3, 6}, []int{1, 2, 3, 1, 2, 1}}, {[]int{6, 3, 2}, []int{1, 2, 3, 3, 2, 3}}, {[]int{3, 6, 2}, []int{1, 2, 3, 3, 1, 3}},
		{[]int{1, 8, 4}, []int{1, 2, 3, 1, 1, 1, 1, 3, 1, 1, 1}},
		{[]int{8, 4, 2, 4}, []int{1, 2, 3, 4, 3, 2, 3, 4, 3}},
		// Just MaxWindows.
		{[]int{3, 6, 2, 1}, []int{1, 2, 3, 4, 4, 3, 4, 1, 4, 3, 4, 4}},
		{[]int{1, 8, 8, 4}, []int{1, 2, 3, 4, 1, 1, 1, 1, 4, 1, 1, 1}},
		{[]int{5, 1, 5, 1}, []int{1, 2, 3, 4, 2, 4, 2, 4, 2, 4, 2, 4}},
	} {
		own := budgets[:len(c.periods)]
		wantHarmonic(t, c.periods, own, ofParts(own, c.parts...))
	}
}

func TestHarmonicRefusesPeriods(t *testing.T) {
	for _, periods := range [][]int{
		nil, {}, {1, 1, 1, 1, 1}, {8, 8, 8, 8, 8}, {8, 8, 8, 8, 8, 8},
		{0}, {9}, {10}, {16}, {-1}, {-8}, {math.MaxInt}, {math.MinInt},
		{0, 0}, {0, 1}, {1, 0}, {9, 1}, {1, 9}, {9, 9}, {9, 3}, {3, 9}, {16, 8}, {8, 16}, {-1, 1}, {1, -1}, {-2, 4}, {4, -2}, {-1, -1},
		{8, 8, 8, 0}, {0, 8, 8, 8}, {8, 8, 8, 9}, {9, 8, 8, 8}, {8, 0, 8}, {8, -4, 8}, {math.MinInt, 8}, {8, math.MinInt}, {math.MaxInt, 1}, {1, math.MaxInt},
		{math.MinInt, -1}, {-1, math.MinInt},
		{6, 4}, {4, 6}, {8, 3}, {3, 8}, {8, 5}, {8, 6}, {8, 7}, {5, 8}, {6, 8}, {7, 8}, {7, 6}, {7, 2}, {2, 7}, {6, 5}, {5, 6}, {5, 4}, {5, 3}, {5, 2}, {4, 3}, {3, 4}, {3, 2}, {2, 3},
		{3, 8, 8, 8}, {8, 3, 8, 8}, {8, 8, 8, 3}, {6, 6, 6, 4}, {4, 6, 6, 6}, {6, 4, 6}, {2, 3, 4}, {4, 3, 2}, {2, 3, 5}, {1, 1, 3, 2}, {2, 3, 1, 1}, {1, 2, 3}, {6, 4, 2},
		// One more than MaxWindows, and more.
		{1, 2, 8}, {8, 2, 1}, {1, 4, 4, 8}, {8, 4, 4, 1}, {1, 6, 1}, {6, 1, 1}, {2, 2, 2, 8}, {8, 2, 2, 2}, {1, 4, 1, 1}, {1, 1, 7}, {1, 1, 1, 8}, {8, 1, 1, 1}, {1, 1, 1, 7},
	} {
		budgets := slices.Repeat([]int{9}, len(periods))
		wantHarmonic(t, periods, budgets, harmony{})
	}
	for _, size := range []int{6, 12, 13, 1000} {
		wantHarmonic(t, slices.Repeat([]int{1}, size), slices.Repeat([]int{1}, size), harmony{})
	}
}

func TestHarmonicRefusesLengths(t *testing.T) {
	for many := range 7 {
		for others := range 7 {
			periods, budgets := slices.Repeat([]int{2}, many), slices.Repeat([]int{3}, others)
			want := harmony{}
			if many == others && many >= 1 && many <= 4 {
				want = ofParts(budgets, []int{1, 2, 3, 4}[:many]...)
			}
			wantHarmonic(t, periods, budgets, want)
		}
	}
	wantHarmonic(t, nil, []int{1}, harmony{})
	wantHarmonic(t, []int{1}, nil, harmony{})
}

func TestHarmonicOfEveryBudget(t *testing.T) {
	for _, budget := range []int{math.MinInt, math.MinInt + 1, -200, -1, 0, 1, 2, 100, 199, 200, 201, 202, 1000, math.MaxInt} {
		right := budget >= 1 && budget <= 200
		for many := 1; many <= 4; many++ {
			for at := range many {
				periods, budgets := slices.Repeat([]int{4}, many), slices.Repeat([]int{50}, many)
				budgets[at] = budget
				want := harmony{}
				if right {
					want = ofParts(budgets, []int{1, 2, 3, 4}[:many]...)
				}
				wantHarmonic(t, periods, budgets, want)
			}
		}
	}
	for budget := 1; budget <= 200; budget++ {
		wantHarmonic(t, []int{2, 1}, []int{budget, 201 - budget}, ofParts([]int{budget, 201 - budget}, 1, 2, 2))
	}
}

func TestHarmonicOfAllPeriods(t *testing.T) {
	numbers := []int{-1, 0, 1, 2, 3, 4, 5, 6, 7, 8, 9}
	budgets := []int{11, 22, 33, 44}
	full := 0
	for many := 1; many <= 4; many++ {
		listsOf(many, numbers, func(periods []int) {
			want := tellHarmonic(periods, budgets[:many])
			wantHarmonic(t, periods, budgets[:many], want)
			if len(want.plan) == impl.MaxWindows {
				full++
			}
		})
	}
	if full == 0 {
		t.Error("no plan has MaxWindows")
	}
}

func TestHarmonicOfDrawnArguments(t *testing.T) {
	d := drawer(9)
	edges := []int{math.MinInt, -8, -1, 0, 1, 2, 3, 4, 5, 6, 7, 8, 9, 199, 200, 201, math.MaxInt}
	right := 0
	for range 60000 {
		var periods, budgets []int
		for range d.below(5) {
			periods, budgets = append(periods, 1<<d.below(4)), append(budgets, 1+d.below(200))
		}
		switch d.below(12) {
		case 0:
			periods = append(periods, edges[d.below(len(edges))])
		case 1:
			budgets = append(budgets, edges[d.below(len(edges))])
		case 2:
			periods, budgets = append(periods, edges[d.below(len(edges))]), append(budgets, edges[d.below(len(edges))])
		}
		want := tellHarmonic(periods, budgets)
		wantHarmonic(t, periods, budgets, want)
		if want.ok {
			right++
		}
	}
	if right < 1000 {
		t.Errorf("only %d plans were right", right)
	}
}

// wantRounds goes through some rounds of a plan, from any place on: each is like the one ahead, and gives each part what TimeOf tells.
func wantRounds(t *testing.T, list []impl.Window) {
	t.Helper()
	size := len(list)
	for _, from := range []int{0, 1, size - 1, size, 7 * size, 1000, math.MaxInt - 3*size} {
		given := map[int]int{}
		for n := from; n < from+size; n++ {
			w := impl.WindowAt(list, n)
			given[w.Part] += w.Budget
			wantWindow(t, list, n+size, w)
			wantWindow(t, list, n+2*size, w)
		}
		for part := range 6 {
			wantTime(t, list, part, given[part])
		}
	}
}

func TestAPlanGoesRound(t *testing.T) {
	for _, list := range rightPlans() {
		wantRounds(t, list)
	}
}

// What is made of periods is a plan that goes round, in which each part has its window once a period.
func TestHarmonicPlansGoRound(t *testing.T) {
	budgets := []int{200, 1, 17, 99}
	made := 0
	for many := 1; many <= 4; many++ {
		listsOf(many, []int{1, 2, 3, 4, 5, 6, 7, 8}, func(periods []int) {
			plan, ok := impl.Harmonic(periods, budgets[:many])
			if !ok {
				return
			}
			made++
			wantPlan(t, plan, true)
			wantRounds(t, plan)
			greatest := slices.Max(periods)
			for i, period := range periods {
				// So many windows of one part, one a period, fill the turns of a whole round.
				windows := 0
				for _, w := range plan {
					if w.Part == i+1 {
						windows++
					}
				}
				if windows*period != greatest {
					t.Fatalf("of the periods %v the part %d has %d windows: %v", periods, i+1, windows, plan)
				}
				wantTime(t, plan, i+1, windows*budgets[i])
			}
			for i := range many {
				wantWindow(t, plan, i, impl.Window{Part: i + 1, Budget: budgets[i]})
			}
		})
	}
	if made == 0 {
		t.Error("no plan was made")
	}
}

func periodsToAsk() [][]int {
	return [][]int{
		nil, {1}, {8}, {1, 2}, {3, 6, 2, 1}, {1, 8, 8, 4}, {8, 8, 8, 8}, {2, 3, 6},
		{6, 4}, {0}, {9}, {1, 2, 8}, {1, 1, 1, 8}, {1, 1, 1, 1, 1}, {-1, 4},
	}
}

func TestPlansThatAreGivenStay(t *testing.T) {
	for _, list := range slices.Concat(rightPlans(), wrongPlans()) {
		given, memory := fencedWindows(list, 5)
		before := slices.Clone(memory)
		impl.PlanOk(given)
		for n := -1; n < 15; n++ {
			impl.WindowAt(given, n)
			impl.TimeOf(given, n)
		}
		if !slices.Equal(memory, before) {
			t.Fatalf("%.200v was changed into %.200v", before, memory)
		}
	}
}

func TestHarmonicSharesNoMemory(t *testing.T) {
	for _, list := range periodsToAsk() {
		for _, spare := range []int{0, 1, 20} {
			periods, periodMemory := fencedNumbers(list, spare)
			budgets, budgetMemory := fencedNumbers(slices.Repeat([]int{7}, len(list)), spare)
			periodsBefore, budgetsBefore := slices.Clone(periodMemory), slices.Clone(budgetMemory)
			one, ok := impl.Harmonic(periods, budgets)
			two, _ := impl.Harmonic(periods, budgets)
			for i := range one[:cap(one)] {
				one[:cap(one)][i] = noWindow
			}
			wantCells(t, "Harmonic, the periods", periodMemory, periodsBefore)
			wantCells(t, "Harmonic, the budgets", budgetMemory, budgetsBefore)
			want := tellHarmonic(list, slices.Repeat([]int{7}, len(list)))
			if !slices.Equal(two, want.plan) || ok != want.ok {
				t.Fatalf("two plans of %v share memory: %v", list, two)
			}
			// What was handed in may change behind the answer, which stays.
			fill(periods, 3)
			fill(budgets, 3)
			if !slices.Equal(two, want.plan) {
				t.Fatalf("a plan of %v hangs on what was handed in: %v", list, two)
			}
		}
	}
	both := []int{2, 4, 8}
	wantHarmonic(t, both, both, ofParts(both, 1, 2, 3, 1, 1, 2, 1))
}

func TestPlansAreAnsweredAlike(t *testing.T) {
	asked := periodsToAsk()
	plans := [][]impl.Window{somePlan(12), nil, somePlan(5), {{}}, somePlan(1), somePlan(13)}
	for range 50 {
		slices.Reverse(asked)
		slices.Reverse(plans)
		for _, periods := range asked {
			budgets := slices.Repeat([]int{7}, len(periods))
			wantHarmonic(t, periods, budgets, tellHarmonic(periods, budgets))
		}
		for _, list := range plans {
			wantPlan(t, list, tellPlanOk(list))
			for n := -2; n < 14; n++ {
				wantWindow(t, list, n, tellWindow(list, n))
				wantTime(t, list, n, tellTime(list, n))
			}
		}
	}
}

// No sender is left waiting behind an answer, be it a plan or not: this test would not end well with one.
func TestHarmonicLeavesNobodyBehind(t *testing.T) {
	synctest.Test(t, func(t *testing.T) {
		for _, periods := range periodsToAsk() {
			budgets := slices.Repeat([]int{7}, len(periods))
			wantHarmonic(t, periods, budgets, tellHarmonic(periods, budgets))
		}
	})
}

// Who asks at the same time as others, of the same lists, is answered as if alone.
func TestHarmonicOfManyAtOnce(t *testing.T) {
	periods, budgets := []int{3, 6, 2, 1}, []int{10, 20, 30, 40}
	want := tellHarmonic(periods, budgets)
	var all sync.WaitGroup
	for range 16 {
		all.Go(func() {
			for range 200 {
				if plan, ok := impl.Harmonic(periods, budgets); !ok || !slices.Equal(plan, want.plan) {
					t.Errorf("Harmonic of %v = %v, %v", periods, plan, ok)
					return
				}
			}
		})
	}
	all.Wait()
}
