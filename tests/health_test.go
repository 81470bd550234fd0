package tests

import (
	"math"
	"slices"
	"sync"
	"testing"

	"loop.example/g00200/impl"
)

// noRule stands around the rules of a list in its memory, where nothing may be written.
var noRule = impl.Rule{Part: fence, Fault: fence, Act: fence}

func fencedRules(list []impl.Rule, spare int) ([]impl.Rule, []impl.Rule) {
	memory := slices.Repeat([]impl.Rule{noRule}, 2+len(list)+spare)
	copy(memory[2:], list)
	return memory[2 : 2+len(list)], memory
}

// wholeTable has a rule for all that there are rules for, each Act among them.
func wholeTable() []impl.Rule {
	return []impl.Rule{
		{Part: 1, Fault: 1, Act: 1}, {Part: 3, Fault: 2, Act: 0}, {Part: 4, Fault: 1, Act: 2}, {Part: 2, Fault: 2, Act: 4},
		{Part: 2, Fault: 1, Act: 3}, {Part: 1, Fault: 2, Act: 2}, {Part: 3, Fault: 1, Act: 4}, {Part: 4, Fault: 2, Act: 1},
	}
}

// rightTables are all that stand side by side in the whole table, gone round.
func rightTables() [][]impl.Rule {
	out := [][]impl.Rule{nil, {}}
	round := slices.Concat(wholeTable(), wholeTable())
	for size := 1; size <= 8; size++ {
		for from := range 8 {
			out = append(out, slices.Clone(round[from:from+size]))
		}
	}
	return out
}

func placesInTable(size int) []int {
	return []int{0, size / 2, size - 1}
}

// wrongRules have one fault each, put in the place of one that is right.
func wrongRules(r impl.Rule) []impl.Rule {
	var out []impl.Rule
	for _, part := range []int{0, 5, 6, -1, -4, math.MaxInt, math.MinInt} {
		out = append(out, impl.Rule{Part: part, Fault: r.Fault, Act: r.Act})
	}
	for _, fault := range []int{0, 3, 4, -1, -2, math.MaxInt, math.MinInt} {
		out = append(out, impl.Rule{Part: r.Part, Fault: fault, Act: r.Act})
	}
	for _, act := range []int{-1, 5, 6, -4, math.MaxInt, math.MinInt} {
		out = append(out, impl.Rule{Part: r.Part, Fault: r.Fault, Act: act})
	}
	if r.Fault == impl.FaultTrap {
		out = append(out, impl.Rule{Part: r.Part, Fault: r.Fault, Act: impl.ActGo})
	}
	return out
}

// tablesWithWrongRules have one rule that is not right, at the first, at a middle or at the last place.
func tablesWithWrongRules() [][]impl.Rule {
	var out [][]impl.Rule
	for _, table := range rightTables()[2:] {
		for _, at := range placesInTable(len(table)) {
			for _, r := range wrongRules(table[at]) {
				list := slices.Clone(table)
				list[at] = r
				out = append(out, list)
			}
		}
	}
	return out
}

// tablesToldTwice have two rules for one Part and Fault, of which each alone would be right, at any two places, with the same Act and with another one.
func tablesToldTwice() [][]impl.Rule {
	var out [][]impl.Rule
	for size := 2; size <= 8; size++ {
		for later := range size {
			for first := range later {
				for act := 1; act <= 4; act++ {
					list := wholeTable()[:size]
					list[later] = impl.Rule{Part: list[first].Part, Fault: list[first].Fault, Act: act}
					out = append(out, list)
				}
			}
		}
	}
	return out
}

// tooLongTables tell something twice, too: there are no more than eight Parts and Faults to tell of.
func tooLongTables() [][]impl.Rule {
	out := [][]impl.Rule{slices.Repeat([]impl.Rule{{Part: 1, Fault: 1, Act: 1}}, 9), slices.Repeat(wholeTable(), 2), slices.Repeat(wholeTable(), 500)}
	for _, r := range wholeTable() {
		out = append(out, append(wholeTable(), r), append([]impl.Rule{r}, wholeTable()...))
	}
	return out
}

func wrongTables() [][]impl.Rule {
	return slices.Concat(tablesWithWrongRules(), tablesToldTwice(), tooLongTables())
}

// tellRulesOk holds each rule against each one behind it.
func tellRulesOk(list []impl.Rule) bool {
	if len(list) > 8 {
		return false
	}
	for i, r := range list {
		acts := []int{0, 1, 2, 3, 4}
		if r.Fault == 1 {
			acts = acts[1:]
		}
		if !slices.Contains([]int{1, 2, 3, 4}, r.Part) || !slices.Contains([]int{1, 2}, r.Fault) || !slices.Contains(acts, r.Act) {
			return false
		}
		for _, other := range list[i+1:] {
			if other.Part == r.Part && other.Fault == r.Fault {
				return false
			}
		}
	}
	return true
}

// tellAct looks from the last rule on, so that the first one counts.
func tellAct(list []impl.Rule, part int, fault int, starts int) int {
	act := 0
	if fault == 1 {
		act = 3
	}
	for _, r := range slices.Backward(list) {
		if r.Part == part && r.Fault == fault {
			act = r.Act
		}
	}
	if starts > 2 && slices.Contains([]int{1, 2}, act) {
		act = 3
	}
	return act
}

func wantRules(t *testing.T, list []impl.Rule, want bool) {
	t.Helper()
	if got := impl.RulesOk(list); got != want {
		t.Fatalf("RulesOk of %d (%.200v) = %v", len(list), list, got)
	}
}

func wantAct(t *testing.T, list []impl.Rule, part int, fault int, starts int, want int) {
	t.Helper()
	if got := impl.ActFor(list, part, fault, starts); got != want {
		t.Fatalf("ActFor of %d (%.200v), part %d, fault %d, starts %d = %d, want %d", len(list), list, part, fault, starts, got, want)
	}
}

func numbersOfStarts() []int {
	return []int{math.MinInt, -3, -1, 0, 1, 2, 3, 4, 5, 1000000000, math.MaxInt}
}

func TestConstantsOfHealth(t *testing.T) {
	got := []int{impl.FaultTrap, impl.FaultLate, impl.ActGo, impl.ActWarm, impl.ActCold, impl.ActHalt, impl.ActStop, impl.MaxStarts}
	if want := []int{1, 2, 0, 1, 2, 3, 4, 3}; !slices.Equal(got, want) {
		t.Errorf("the constants are %v, want %v", got, want)
	}
}

func TestRulesOk(t *testing.T) {
	for _, list := range rightTables() {
		wantRules(t, list, true)
	}
	for _, list := range wrongTables() {
		wantRules(t, list, false)
	}
}

func TestRulesOfEverySize(t *testing.T) {
	wantRules(t, nil, true)
	wantRules(t, []impl.Rule{}, true)
	wantRules(t, []impl.Rule{{Part: 2, Fault: 1, Act: 3}}, true)
	wantRules(t, []impl.Rule{{}}, false)
	long := slices.Repeat(wholeTable(), 3)
	for size := range len(long) + 1 {
		wantRules(t, long[:size], size <= 8)
	}
}

func TestRulesOfEveryNumber(t *testing.T) {
	parts := []int{math.MinInt, -1, 0, 1, 2, 3, 4, 5, math.MaxInt}
	faults := []int{math.MinInt, -1, 0, 1, 2, 3, math.MaxInt}
	acts := []int{math.MinInt, -1, 0, 1, 2, 3, 4, 5, math.MaxInt}
	right := 0
	for _, part := range parts {
		for _, fault := range faults {
			for _, act := range acts {
				one := impl.Rule{Part: part, Fault: fault, Act: act}
				if impl.RulesOk([]impl.Rule{one}) {
					right++
				}
				for _, table := range rightTables()[2:] {
					for _, at := range placesInTable(len(table)) {
						list := slices.Clone(table)
						list[at] = one
						wantRules(t, list, tellRulesOk(list))
					}
				}
			}
		}
	}
	// 4 parts, with FaultTrap and 4 Acts, and with FaultLate and 5 Acts.
	if right != 4*(4+5) {
		t.Errorf("%d rules are right", right)
	}
}

func TestATrapCannotGoOn(t *testing.T) {
	for part := 1; part <= 4; part++ {
		wantRules(t, []impl.Rule{{Part: part, Fault: impl.FaultTrap, Act: impl.ActGo}}, false)
		wantRules(t, []impl.Rule{{Part: part, Fault: impl.FaultLate, Act: impl.ActGo}}, true)
	}
	for at := range 8 {
		list := wholeTable()
		late := list[at].Fault == impl.FaultLate
		list[at].Act = impl.ActGo
		wantRules(t, list, late)
	}
}

func TestRulesToldTwice(t *testing.T) {
	for part := 1; part <= 4; part++ {
		for fault := 1; fault <= 2; fault++ {
			for act := 1; act <= 4; act++ {
				one := impl.Rule{Part: part, Fault: fault, Act: act}
				wantRules(t, []impl.Rule{one, one}, false)
				for other := 1; other <= 4; other++ {
					wantRules(t, []impl.Rule{one, {Part: part, Fault: fault, Act: other}}, false)
					wantRules(t, []impl.Rule{one, {Part: part, Fault: 3 - fault, Act: other}}, true)
					wantRules(t, []impl.Rule{one, {Part: 1 + part%4, Fault: fault, Act: other}}, true)
				}
			}
		}
	}
	// A Part and a Fault that are turned round are others.
	wantRules(t, []impl.Rule{{Part: 1, Fault: 2, Act: 1}, {Part: 2, Fault: 1, Act: 1}}, true)
	for _, list := range tablesToldTwice() {
		wantRules(t, list, false)
		slices.Reverse(list)
		wantRules(t, list, false)
	}
}

func TestActFor(t *testing.T) {
	list := []impl.Rule{
		{Part: 1, Fault: impl.FaultTrap, Act: impl.ActWarm}, {Part: 3, Fault: impl.FaultLate, Act: impl.ActStop},
		{Part: 2, Fault: impl.FaultTrap, Act: impl.ActStop}, {Part: 1, Fault: impl.FaultLate, Act: impl.ActCold},
	}
	for _, c := range []struct{ part, fault, starts, want int }{
		{1, impl.FaultTrap, 0, impl.ActWarm}, {1, impl.FaultTrap, 2, impl.ActWarm}, {1, impl.FaultTrap, 3, impl.ActHalt},
		{3, impl.FaultLate, 0, impl.ActStop}, {3, impl.FaultLate, 3, impl.ActStop},
		{2, impl.FaultTrap, 0, impl.ActStop}, {2, impl.FaultTrap, 9, impl.ActStop},
		{1, impl.FaultLate, 0, impl.ActCold}, {1, impl.FaultLate, 2, impl.ActCold}, {1, impl.FaultLate, 4, impl.ActHalt},
		// None for the fault, and none for the part.
		{3, impl.FaultTrap, 0, impl.ActHalt}, {2, impl.FaultLate, 0, impl.ActGo}, {2, impl.FaultLate, 3, impl.ActGo},
		{4, impl.FaultTrap, 0, impl.ActHalt}, {4, impl.FaultLate, 0, impl.ActGo}, {4, impl.FaultLate, 3, impl.ActGo},
		{0, impl.FaultTrap, 0, impl.ActHalt}, {5, impl.FaultLate, 0, impl.ActGo}, {-1, impl.FaultTrap, 3, impl.ActHalt},
		// A fault that is neither is named by no sentence.
		{1, 0, 0, 0}, {1, 3, 0, 0}, {1, -1, 3, 0}, {1, math.MaxInt, 0, 0}, {1, math.MinInt, 5, 0},
	} {
		wantAct(t, list, c.part, c.fault, c.starts, c.want)
	}
}

func TestActForWithoutRules(t *testing.T) {
	for _, part := range []int{math.MinInt, -1, 0, 1, 2, 3, 4, 5, math.MaxInt} {
		for _, starts := range numbersOfStarts() {
			for _, list := range [][]impl.Rule{nil, {}} {
				wantAct(t, list, part, impl.FaultTrap, starts, impl.ActHalt)
				wantAct(t, list, part, impl.FaultLate, starts, impl.ActGo)
				for _, fault := range []int{math.MinInt, -1, 0, 3, 4, math.MaxInt} {
					wantAct(t, list, part, fault, starts, 0)
				}
			}
		}
	}
}

// wantTable asks of a list all that it may tell, and more.
func wantTable(t *testing.T, list []impl.Rule) {
	t.Helper()
	for part := -1; part <= 6; part++ {
		for fault := -1; fault <= 4; fault++ {
			for _, starts := range []int{-1, 0, 2, 3, 4} {
				wantAct(t, list, part, fault, starts, tellAct(list, part, fault, starts))
			}
		}
	}
}

func TestActForOfRightTables(t *testing.T) {
	for _, list := range rightTables() {
		wantTable(t, list)
		for _, r := range list {
			wantAct(t, list, r.Part, r.Fault, 0, r.Act)
		}
	}
}

// What the table tells is done, be the table right or not.
func TestActForOfTablesThatAreNotRight(t *testing.T) {
	for _, list := range wrongTables() {
		for _, r := range list[:min(len(list), 9)] {
			for _, starts := range numbersOfStarts() {
				wantAct(t, list, r.Part, r.Fault, starts, tellAct(list, r.Part, r.Fault, starts))
			}
		}
	}
	for _, one := range []impl.Rule{
		{Part: 0, Fault: 1, Act: 4}, {Part: 5, Fault: 2, Act: 3}, {Part: -1, Fault: 1, Act: 0}, {Part: 1, Fault: 1, Act: 0},
		{Part: 1, Fault: 0, Act: 4}, {Part: 1, Fault: 3, Act: 3}, {Part: 1, Fault: -1, Act: 4}, {},
		{Part: 1, Fault: 1, Act: 5}, {Part: 1, Fault: 2, Act: -1}, {Part: 1, Fault: 1, Act: math.MaxInt}, {Part: 1, Fault: 1, Act: math.MinInt},
		{Part: math.MaxInt, Fault: math.MinInt, Act: 4}, {Part: math.MinInt, Fault: math.MaxInt, Act: 7},
	} {
		for _, list := range [][]impl.Rule{{one}, append(wholeTable()[1:], one), slices.Insert(wholeTable()[1:], 3, one), append([]impl.Rule{one}, wholeTable()...)} {
			for _, starts := range []int{0, 3} {
				wantAct(t, list, one.Part, one.Fault, starts, tellAct(list, one.Part, one.Fault, starts))
			}
		}
		wantAct(t, []impl.Rule{one}, one.Part, one.Fault, 3, one.Act)
	}
	// A start is a start, whatever it is a rule for.
	wantAct(t, []impl.Rule{{Part: 9, Fault: 8, Act: impl.ActWarm}}, 9, 8, 2, impl.ActWarm)
	wantAct(t, []impl.Rule{{Part: 9, Fault: 8, Act: impl.ActWarm}}, 9, 8, 3, impl.ActHalt)
}

func TestTheFirstOfSeveralRules(t *testing.T) {
	for first := range 5 {
		for other := range 5 {
			a, b := impl.Rule{Part: 2, Fault: 1, Act: first}, impl.Rule{Part: 2, Fault: 1, Act: other}
			between := []impl.Rule{{Part: 1, Fault: 1, Act: 4}, {Part: 2, Fault: 2, Act: 4}}
			for _, list := range [][]impl.Rule{
				{a, b}, {a, b, b}, {a, b, a}, append(append([]impl.Rule{a}, between...), b), append(slices.Clone(between), a, b),
				append(slices.Repeat(between, 50), a, b), append(append([]impl.Rule{a}, slices.Repeat(between, 50)...), b),
			} {
				wantAct(t, list, 2, 1, 0, first)
				wantAct(t, list, 2, 1, 2, first)
				wantTable(t, list)
			}
		}
	}
	for _, list := range tablesToldTwice() {
		wantTable(t, list)
	}
}

func TestActForOfEveryNumberOfStarts(t *testing.T) {
	for _, starts := range numbersOfStarts() {
		often := starts >= impl.MaxStarts
		for act := range 5 {
			want := act
			if often && (act == impl.ActWarm || act == impl.ActCold) {
				want = impl.ActHalt
			}
			for part := 1; part <= 4; part++ {
				for fault := 1; fault <= 2; fault++ {
					wantAct(t, []impl.Rule{{Part: part, Fault: fault, Act: act}}, part, fault, starts, want)
				}
			}
		}
		wantAct(t, wholeTable()[1:4], 1, impl.FaultTrap, starts, impl.ActHalt)
		wantAct(t, wholeTable()[1:4], 1, impl.FaultLate, starts, impl.ActGo)
	}
}

// Who is started again at each fault is halted behind MaxStarts of them; all other Acts are told for ever.
func TestWhoStartsTooOftenIsHalted(t *testing.T) {
	for _, r := range wholeTable() {
		starts, told := 0, []int{}
		for range 6 {
			act := impl.ActFor(wholeTable(), r.Part, r.Fault, starts)
			told = append(told, act)
			if act == impl.ActWarm || act == impl.ActCold {
				starts++
			}
		}
		want := slices.Repeat([]int{r.Act}, 6)
		if r.Act == impl.ActWarm || r.Act == impl.ActCold {
			want = []int{r.Act, r.Act, r.Act, impl.ActHalt, impl.ActHalt, impl.ActHalt}
		}
		if !slices.Equal(told, want) {
			t.Errorf("the rule %v tells %v, want %v", r, told, want)
		}
	}
}

func TestRulesOfDrawnLists(t *testing.T) {
	d := drawer(10)
	edges := []int{math.MinInt, -1, 0, 1, 2, 3, 4, 5, math.MaxInt}
	right, twice := 0, 0
	for range 60000 {
		var list []impl.Rule
		for range d.below(10) {
			list = append(list, impl.Rule{Part: 1 + d.below(4), Fault: 1 + d.below(2), Act: 1 + d.below(4)})
		}
		if len(list) > 0 && d.below(4) == 0 {
			list[d.below(len(list))] = impl.Rule{Part: edges[d.below(9)], Fault: edges[d.below(9)], Act: edges[d.below(9)]}
		}
		want := tellRulesOk(list)
		wantRules(t, list, want)
		part, fault, starts := d.below(6), d.below(4), edges[d.below(9)]
		wantAct(t, list, part, fault, starts, tellAct(list, part, fault, starts))
		if want && len(list) > 1 {
			right++
		}
		if len(list) < 9 && !want {
			twice++
		}
	}
	if right < 1000 || twice < 1000 {
		t.Errorf("only %d lists were right, and %d not", right, twice)
	}
}

func TestRulesThatAreGivenStay(t *testing.T) {
	for _, list := range slices.Concat(rightTables(), wrongTables()) {
		for _, spare := range []int{0, 1, 9} {
			given, memory := fencedRules(list, spare)
			before := slices.Clone(memory)
			impl.RulesOk(given)
			for part := range 6 {
				impl.ActFor(given, part, impl.FaultTrap, 0)
				impl.ActFor(given, part, impl.FaultLate, 3)
				impl.ActFor(given, part, 3, 3)
			}
			if !slices.Equal(memory, before) {
				t.Fatalf("%.200v was changed into %.200v", before, memory)
			}
			// What stands in the spare room is no rule of the list.
			wantRules(t, given, tellRulesOk(list))
			wantAct(t, given, fence, fence, 0, 0)
		}
	}
}

func TestRulesAreAnsweredAlike(t *testing.T) {
	lists := slices.Concat(rightTables(), tablesToldTwice(), tooLongTables())
	for range 20 {
		slices.Reverse(lists)
		for _, list := range lists {
			wantRules(t, list, tellRulesOk(list))
			for part := range 6 {
				for fault := range 4 {
					wantAct(t, list, part, fault, part, tellAct(list, part, fault, part))
				}
			}
		}
	}
}

// Who asks at the same time as others, of the same rules, is answered as if alone.
func TestRulesOfManyAtOnce(t *testing.T) {
	list := wholeTable()
	var all sync.WaitGroup
	for range 16 {
		all.Go(func() {
			for range 200 {
				for _, r := range list {
					if !impl.RulesOk(list) || impl.ActFor(list, r.Part, r.Fault, 0) != r.Act {
						t.Errorf("the rule %v is told in another way", r)
						return
					}
				}
			}
		})
	}
	all.Wait()
}
