package tests

import (
	"encoding/binary"
	"fmt"
	"math"
	"slices"
	"strings"
	"sync"
	"testing"
	"unsafe"

	"loop.example/g00200/impl"
)

// codeText is a code of so many bytes, all kinds of bytes among them.
func codeText(size int) string {
	return mixedText(size + 7)[7:]
}

// smallSetup is as small as a right one can be, but for its code.
func smallSetup() impl.Setup {
	return impl.Setup{Regions: []impl.Region{{Size: 4}}, Plan: []impl.Window{{Part: 1, Budget: 9}}, Codes: []string{"\x01\x07\x10\x00\x00\x00"}}
}

// fullSetup has as much of all as there may be; its numbers are those at the edges, where there is a choice.
func fullSetup() impl.Setup {
	return impl.Setup{
		Regions: []impl.Region{{From: 63, Size: 1}, {From: 0, Size: 20}, {From: 40, Size: 23}, {From: 20, Size: 20}},
		Plan: []impl.Window{
			{Part: 1, Budget: 200}, {Part: 4, Budget: 1}, {Part: 2, Budget: 127}, {Part: 3, Budget: 128}, {Part: 3, Budget: 129}, {Part: 1, Budget: 2},
			{Part: 2, Budget: 199}, {Part: 4, Budget: 50}, {Part: 4, Budget: 51}, {Part: 4, Budget: 52}, {Part: 1, Budget: 100}, {Part: 3, Budget: 200},
		},
		Ports: []impl.Port{
			{Kind: 1, From: 1, To: 4, Most: 6}, {Kind: 2, From: 4, To: 1, Most: 1, Fresh: 100}, {Kind: 1, From: 2, To: 3, Most: 1},
			{Kind: 2, From: 3, To: 2, Most: 1, Fresh: 1}, {Kind: 1, From: 4, To: 2, Most: 3}, {Kind: 2, From: 1, To: 3, Most: 1, Fresh: 64},
		},
		Rules: wholeTable(),
		Codes: []string{codeText(120), "", codeText(2), codeText(64)},
	}
}

// setupOf has so many regions, and what else is told for its parts, as far as these are there.
func setupOf(regions int, ports bool, rules bool) impl.Setup {
	full := fullSetup()
	s := impl.Setup{Regions: full.Regions[:regions:regions], Codes: full.Codes[:regions:regions]}
	for _, w := range full.Plan {
		if w.Part <= regions {
			s.Plan = append(s.Plan, w)
		}
	}
	for _, p := range full.Ports {
		if ports && p.From <= regions && p.To <= regions {
			s.Ports = append(s.Ports, p)
		}
	}
	for _, r := range full.Rules {
		if rules && r.Part <= regions {
			s.Rules = append(s.Rules, r)
		}
	}
	return s
}

// twoParts is right, and each thing of it can be spoilt without another one.
func twoParts() impl.Setup {
	return impl.Setup{
		Regions: []impl.Region{{From: 0, Size: 10}, {From: 10, Size: 10}},
		Plan:    []impl.Window{{Part: 1, Budget: 30}, {Part: 2, Budget: 40}, {Part: 1, Budget: 50}},
		Ports:   []impl.Port{{Kind: 1, From: 1, To: 2, Most: 3}, {Kind: 2, From: 2, To: 1, Most: 1, Fresh: 5}, {Kind: 1, From: 2, To: 1, Most: 2}},
		Rules:   []impl.Rule{{Part: 1, Fault: 1, Act: 1}, {Part: 2, Fault: 2, Act: 0}, {Part: 2, Fault: 1, Act: 3}},
		Codes:   []string{codeText(8), codeText(10)},
	}
}

func copyOfSetup(s impl.Setup) impl.Setup {
	return impl.Setup{
		Regions: slices.Clone(s.Regions), Plan: slices.Clone(s.Plan), Ports: slices.Clone(s.Ports),
		Rules: slices.Clone(s.Rules), Codes: slices.Clone(s.Codes),
	}
}

func sameSetup(a impl.Setup, b impl.Setup) bool {
	return slices.Equal(a.Regions, b.Regions) && slices.Equal(a.Plan, b.Plan) && slices.Equal(a.Ports, b.Ports) &&
		slices.Equal(a.Rules, b.Rules) && slices.Equal(a.Codes, b.Codes)
}

func rightSetups() []impl.Setup {
	out := []impl.Setup{smallSetup(), fullSetup(), twoParts()}
	for regions := 1; regions <= 4; regions++ {
		for _, ports := range []bool{false, true} {
			for _, rules := range []bool{false, true} {
				out = append(out, setupOf(regions, ports, rules))
			}
		}
	}
	for size := 0; size <= 120; size += 2 {
		s := smallSetup()
		s.Codes[0] = codeText(size)
		out = append(out, s)
	}
	return out
}

func isCodeText(code string) bool {
	return len(code) < 121 && len(code)&1 == 0
}

// partsIn tells all parts of which a set-up speaks.
func partsIn(s impl.Setup) []int {
	var out []int
	for _, w := range s.Plan {
		out = append(out, w.Part)
	}
	for _, p := range s.Ports {
		out = append(out, p.From, p.To)
	}
	for _, r := range s.Rules {
		out = append(out, r.Part)
	}
	return out
}

func tellSetupFault(s impl.Setup) int {
	faults := []bool{
		!rightRegions(s.Regions),
		!tellPlanOk(s.Plan),
		len(s.Ports) > 6 || slices.ContainsFunc(s.Ports, func(p impl.Port) bool { return !tellPortOk(p) }),
		!tellRulesOk(s.Rules),
		len(s.Codes) != len(s.Regions) || slices.ContainsFunc(s.Codes, func(code string) bool { return !isCodeText(code) }),
		slices.ContainsFunc(partsIn(s), func(part int) bool { return part < 1 || part > len(s.Regions) }),
	}
	return slices.Index(faults, true) + 1
}

// numbersIn tells the numbers of a set-up in the order in which they are written; at the places of codes there are none.
func numbersIn(s impl.Setup) []int {
	out := []int{len(s.Regions)}
	for _, r := range s.Regions {
		out = append(out, r.From, r.Size)
	}
	out = append(out, len(s.Plan))
	for _, w := range s.Plan {
		out = append(out, w.Part, w.Budget)
	}
	out = append(out, len(s.Ports))
	for _, p := range s.Ports {
		out = append(out, p.Kind, p.From, p.To, p.Most, p.Fresh)
	}
	out = append(out, len(s.Rules))
	for _, r := range s.Rules {
		out = append(out, r.Part, r.Fault, r.Act)
	}
	return out
}

func bytesOf(numbers []int, codes []string) string {
	var out []byte
	for _, n := range numbers {
		out = binary.AppendUvarint(out, uint64(n))
	}
	for _, code := range codes {
		out = append(binary.AppendUvarint(out, uint64(len(code))), code...)
	}
	return string(out)
}

// tellSetupText writes wrong set-ups, too, as long as no number is below 0.
func tellSetupText(s impl.Setup) string {
	return bytesOf(numbersIn(s), s.Codes)
}

// tape is a text that is read from its beginning on; behind what can't be read it is torn, and gives 0 for ever.
type tape struct {
	text string
	torn bool
}

func (a *tape) number() int {
	n, behind, ok := wantVar(a.text, 0)
	if !ok {
		a.torn = true
		return 0
	}
	a.text = a.text[behind:]
	return n
}

func (a *tape) code() string {
	size := a.number()
	if size > len(a.text) {
		a.torn = true
		return ""
	}
	code := a.text[:size]
	a.text = a.text[size:]
	return code
}

func (a *tape) setup() impl.Setup {
	var s impl.Setup
	for n := a.number(); n > 0 && !a.torn; n-- {
		s.Regions = append(s.Regions, impl.Region{From: a.number(), Size: a.number()})
	}
	for n := a.number(); n > 0 && !a.torn; n-- {
		s.Plan = append(s.Plan, impl.Window{Part: a.number(), Budget: a.number()})
	}
	for n := a.number(); n > 0 && !a.torn; n-- {
		s.Ports = append(s.Ports, impl.Port{Kind: a.number(), From: a.number(), To: a.number(), Most: a.number(), Fresh: a.number()})
	}
	for n := a.number(); n > 0 && !a.torn; n-- {
		s.Rules = append(s.Rules, impl.Rule{Part: a.number(), Fault: a.number(), Act: a.number()})
	}
	for range s.Regions {
		s.Codes = append(s.Codes, a.code())
	}
	return s
}

func tellReadSetup(text string) (impl.Setup, bool) {
	a := tape{text: text}
	s := a.setup()
	if a.torn || a.text != "" || tellSetupFault(s) != 0 || tellSetupText(s) != text {
		return impl.Setup{}, false
	}
	return s, true
}

// shown is a set-up for a reader's eye, whose codes may be of any bytes and of any length.
func shown(s impl.Setup) string {
	return fmt.Sprintf("%.300s with the codes %.60q", fmt.Sprint(s.Regions, s.Plan, s.Ports, s.Rules), s.Codes)
}

func wantFault(t *testing.T, s impl.Setup, want int) {
	t.Helper()
	if got := impl.SetupFault(s); got != want {
		t.Fatalf("SetupFault of %s = %d, want %d", shown(s), got, want)
	}
	text, ok := impl.SetupText(s)
	if want != 0 && (ok || text != "") {
		t.Fatalf("SetupText of %s, with the fault %d = %.80q, %v", shown(s), want, text, ok)
	}
	if want == 0 && (!ok || text != tellSetupText(s)) {
		t.Fatalf("SetupText of %s = %q, %v, want %q", shown(s), text, ok, tellSetupText(s))
	}
}

func wantRead(t *testing.T, text string, want impl.Setup, right bool) {
	t.Helper()
	s, ok := impl.ReadSetup(text)
	if ok != right || !sameSetup(s, want) {
		t.Fatalf("ReadSetup of %d bytes (%.200q) = %s, %v, want %s, %v", len(text), text, shown(s), ok, shown(want), right)
	}
}

func wantUnread(t *testing.T, text string) {
	t.Helper()
	wantRead(t, text, impl.Setup{}, false)
}

func wantReadAsTold(t *testing.T, text string) bool {
	t.Helper()
	want, right := tellReadSetup(text)
	wantRead(t, text, want, right)
	return right
}

func wantBack(t *testing.T, s impl.Setup) {
	t.Helper()
	wantFault(t, s, 0)
	text, _ := impl.SetupText(s)
	wantRead(t, text, s, true)
}

func TestConstantsOfSetups(t *testing.T) {
	for i, fault := range []int{impl.FaultRegions, impl.FaultPlan, impl.FaultPorts, impl.FaultRules, impl.FaultCodes, impl.FaultParts} {
		if fault != i+1 {
			t.Errorf("the fault of the place %d is %d", i, fault)
		}
	}
}

func TestRightSetups(t *testing.T) {
	for _, s := range rightSetups() {
		if tellSetupFault(s) != 0 {
			t.Fatalf("%s is not right, and should be", shown(s))
		}
		wantBack(t, s)
	}
	// Lists that are empty, and those that are not there, are the same.
	s := smallSetup()
	s.Ports, s.Rules = []impl.Port{}, []impl.Rule{}
	wantBack(t, s)
}

func TestTheEmptySetup(t *testing.T) {
	wantFault(t, impl.Setup{}, impl.FaultRegions)
	wantFault(t, impl.Setup{Regions: []impl.Region{}, Plan: []impl.Window{}, Ports: []impl.Port{}, Rules: []impl.Rule{}, Codes: []string{}}, impl.FaultRegions)
	wantFault(t, impl.Setup{Regions: []impl.Region{{}}, Plan: []impl.Window{{}}, Ports: []impl.Port{{}}, Rules: []impl.Rule{{}}, Codes: []string{""}}, impl.FaultRegions)
	wantUnread(t, "")
	wantUnread(t, "\x00\x00\x00\x00")
	wantUnread(t, tellSetupText(impl.Setup{}))
}

func TestFaultOfRegions(t *testing.T) {
	with := func(list []impl.Region) impl.Setup {
		s := smallSetup()
		s.Regions = list
		s.Codes = slices.Repeat([]string{""}, len(list))
		return s
	}
	for _, list := range [][]impl.Region{
		{{From: 0, Size: 64}}, {{From: 63, Size: 1}}, {{From: 0, Size: 32}, {From: 32, Size: 32}}, unlikeRegions(),
	} {
		wantBack(t, with(list))
	}
	five := slices.Concat(unlikeRegions(), []impl.Region{{From: 41, Size: 3}})
	for _, list := range [][]impl.Region{
		nil, {}, five, slices.Repeat(five, 100),
		{{From: 0, Size: 2}, {From: 1, Size: 2}}, {{From: 5, Size: 1}, {From: 5, Size: 1}}, {{From: 0, Size: 64}, {From: 63, Size: 1}},
		{{From: 0, Size: 1}, {From: 1, Size: 1}, {From: 2, Size: 1}, {From: 0, Size: 3}},
		{{From: 0, Size: 0}}, {{From: 0, Size: 65}}, {{From: 64, Size: 1}}, {{From: -1, Size: 2}}, {{From: 1, Size: -1}},
		{{From: math.MaxInt, Size: math.MaxInt}}, {{From: math.MinInt, Size: math.MinInt}}, {{From: 1, Size: math.MaxInt}}, {{From: math.MinInt, Size: 1}},
	} {
		wantFault(t, with(list), impl.FaultRegions)
	}
}

func TestFaultOfPlan(t *testing.T) {
	s := fullSetup()
	for _, plan := range rightPlans() {
		s.Plan = plan
		wantBack(t, s)
	}
	for _, plan := range wrongPlans() {
		s.Plan = plan
		wantFault(t, s, impl.FaultPlan)
	}
	for size := range 30 {
		s.Plan = somePlan(size)
		want := impl.FaultPlan
		if size >= 1 && size <= 12 {
			want = 0
		}
		wantFault(t, s, want)
	}
}

func TestFaultOfPorts(t *testing.T) {
	s := fullSetup()
	right := rightPorts()
	for size := range 20 {
		s.Ports = right[:size]
		want := impl.FaultPorts
		if size <= 6 {
			want = 0
		}
		wantFault(t, s, want)
	}
	for _, p := range right {
		s.Ports = []impl.Port{p}
		wantBack(t, s)
		// Two ports may be alike.
		s.Ports = slices.Repeat([]impl.Port{p}, 6)
		wantBack(t, s)
		s.Ports = slices.Repeat([]impl.Port{p}, 7)
		wantFault(t, s, impl.FaultPorts)
	}
	for _, p := range wrongPorts() {
		for size := 1; size <= 6; size++ {
			for at := range size {
				s.Ports = slices.Clone(right[:size])
				s.Ports[at] = p
				wantFault(t, s, impl.FaultPorts)
			}
		}
	}
}

func TestFaultOfRules(t *testing.T) {
	s := fullSetup()
	for _, rules := range rightTables() {
		s.Rules = rules
		wantBack(t, s)
	}
	for _, rules := range wrongTables() {
		s.Rules = rules
		wantFault(t, s, impl.FaultRules)
	}
}

func TestFaultOfCodes(t *testing.T) {
	for regions := 1; regions <= 4; regions++ {
		s := setupOf(regions, true, true)
		for codes := range 9 {
			s.Codes = slices.Repeat([]string{codeText(6)}, codes)
			want := impl.FaultCodes
			if codes == regions {
				want = 0
			}
			wantFault(t, s, want)
		}
		for at := range regions {
			for size := range 130 {
				s := setupOf(regions, true, true)
				s.Codes = slices.Clone(s.Codes)
				s.Codes[at] = codeText(size)
				want := 0
				if size%2 == 1 || size > 120 {
					want = impl.FaultCodes
				}
				wantFault(t, s, want)
			}
			for _, size := range []int{240, 255, 256, 1000, 16384, 19999, 20000, 20001, 20002, 100000} {
				s := setupOf(regions, true, true)
				s.Codes = slices.Clone(s.Codes)
				s.Codes[at] = codeText(size)
				wantFault(t, s, impl.FaultCodes)
			}
		}
	}
	s := setupOf(3, false, false)
	for _, codes := range [][]string{nil, {}, {""}, {"", ""}, {"", "", "", ""}, {"\x00", "", ""}, {"", "\x00", ""}, {"", "", "\x00"}} {
		s.Codes = codes
		wantFault(t, s, impl.FaultCodes)
	}
}

// A code of bytes is right whatever its Ops are: an Op without a name traps, and is no fault of the set-up.
func TestCodesOfAllBytes(t *testing.T) {
	s := smallSetup()
	for op := range 256 {
		for _, arg := range []int{0, 1, 60, 255} {
			s.Codes = []string{string([]byte{byte(op), byte(arg)})}
			wantBack(t, s)
		}
	}
}

// A part just above how many regions there are, and all above it, in each thing alone.
func TestFaultOfParts(t *testing.T) {
	for regions := 1; regions <= 3; regions++ {
		for part := 1; part <= 4; part++ {
			want := 0
			if part > regions {
				want = impl.FaultParts
			}
			for _, s := range withPart(regions, part) {
				wantFault(t, s, want)
				if want == 0 {
					wantBack(t, s)
				} else {
					wantUnread(t, tellSetupText(s))
				}
			}
		}
	}
	for _, part := range []int{1, 2, 3, 4} {
		for _, s := range withPart(4, part) {
			wantBack(t, s)
		}
	}
}

// withPart tells of the part once: in a window, in a rule, or, where there is another part, as a port's From or To.
func withPart(regions int, part int) []impl.Setup {
	var out []impl.Setup
	for at := range 12 {
		s := setupOf(regions, false, false)
		s.Plan = slices.Repeat([]impl.Window{{Part: regions, Budget: 5}}, 12)
		s.Plan[at].Part = part
		out = append(out, s)
	}
	for fault := 1; fault <= 2; fault++ {
		s := setupOf(regions, false, false)
		s.Rules = []impl.Rule{{Part: part, Fault: fault, Act: 4}}
		out = append(out, s)
		if part != 1 {
			s = setupOf(regions, false, false)
			s.Rules = []impl.Rule{{Part: 1, Fault: fault, Act: 4}, {Part: part, Fault: fault, Act: 3}, {Part: 1, Fault: 3 - fault, Act: 2}}
			out = append(out, s)
		}
	}
	for other := 1; other <= regions; other++ {
		if other == part {
			continue
		}
		for size := 1; size <= 6; size++ {
			for at := range size {
				out = append(out, withPort(regions, other, size, at, impl.Port{Kind: 1, From: part, To: other, Most: 2}))
				out = append(out, withPort(regions, other, size, at, impl.Port{Kind: 2, From: other, To: part, Most: 1, Fresh: 2}))
			}
		}
	}
	return out
}

// withPort has the port at one place; with one region alone there is no other port that is right.
func withPort(regions int, other int, size int, at int, p impl.Port) impl.Setup {
	s := setupOf(regions, false, false)
	s.Ports = slices.Repeat([]impl.Port{{Kind: 1, From: other, To: 1 + other%max(regions, 2), Most: 1}}, size)
	s.Ports[at] = p
	if regions == 1 {
		s.Ports = s.Ports[at : at+1]
	}
	return s
}

// spoilers make one fault each, in several ways, of a set-up that is like twoParts but for other faults.
func spoilers() map[int][]func(s *impl.Setup) {
	return map[int][]func(s *impl.Setup){
		impl.FaultRegions: {
			func(s *impl.Setup) { s.Regions[1].From = 9 }, func(s *impl.Setup) { s.Regions[0] = impl.Region{} },
			func(s *impl.Setup) { s.Regions[1].Size = 55 }, func(s *impl.Setup) { s.Regions[0].From = -1 },
		},
		impl.FaultPlan: {
			func(s *impl.Setup) { s.Plan[0].Part = 0 }, func(s *impl.Setup) { s.Plan[1].Budget = 201 },
			func(s *impl.Setup) { s.Plan = slices.Repeat(s.Plan, 5) }, func(s *impl.Setup) { s.Plan[1].Part = 5 },
		},
		impl.FaultPorts: {
			func(s *impl.Setup) { s.Ports[0].Most = 7 }, func(s *impl.Setup) { s.Ports[1].Fresh = 0 },
			func(s *impl.Setup) { s.Ports = slices.Repeat(s.Ports, 3) }, func(s *impl.Setup) { s.Ports[1].To = 2 },
		},
		impl.FaultRules: {
			func(s *impl.Setup) { s.Rules[0].Act = 0 }, func(s *impl.Setup) { s.Rules[1].Act = 5 },
			func(s *impl.Setup) { s.Rules = slices.Repeat(s.Rules, 3) }, func(s *impl.Setup) { s.Rules[1] = s.Rules[0] },
		},
		impl.FaultCodes: {
			func(s *impl.Setup) { s.Codes[0] = "\x00" }, func(s *impl.Setup) { s.Codes[1] = codeText(122) },
			func(s *impl.Setup) { s.Codes = s.Codes[:1] }, func(s *impl.Setup) { s.Codes = append(s.Codes, "") }, func(s *impl.Setup) { s.Codes = nil },
		},
		impl.FaultParts: {
			func(s *impl.Setup) { s.Plan[2].Part = 3 }, func(s *impl.Setup) { s.Ports[2].From = 3 },
			func(s *impl.Setup) { s.Ports[2].To = 4 }, func(s *impl.Setup) { s.Rules[2].Part = 3 },
		},
	}
}

func TestEachFaultAloneAndEachPair(t *testing.T) {
	all := spoilers()
	wantBack(t, twoParts())
	for first := 1; first <= 6; first++ {
		for _, one := range all[first] {
			s := copyOfSetup(twoParts())
			one(&s)
			wantFault(t, s, first)
			for second := first + 1; second <= 6; second++ {
				for _, two := range all[second] {
					s := copyOfSetup(twoParts())
					// The later one of the list is made first, so that the order is the list's and not the making's.
					two(&s)
					wantFault(t, s, second)
					one(&s)
					wantFault(t, s, first)
				}
			}
		}
	}
}

func TestTheFirstOfManyFaults(t *testing.T) {
	all := spoilers()
	for way := range 4 {
		for some := 1; some < 64; some++ {
			s := copyOfSetup(twoParts())
			first := 0
			for fault := 6; fault >= 1; fault-- {
				if some>>(fault-1)&1 == 1 {
					all[fault][way](&s)
					first = fault
				}
			}
			wantFault(t, s, first)
			if tellSetupFault(s) != first {
				t.Fatalf("%s is told to have the fault %d", shown(s), tellSetupFault(s))
			}
		}
	}
}

// fieldsOf answers where each number of a set-up stands, and the fault that one far out of range makes there.
func fieldsOf(s *impl.Setup) ([]*int, []int) {
	var fields []*int
	var faults []int
	add := func(fault int, some ...*int) {
		fields = append(fields, some...)
		faults = append(faults, slices.Repeat([]int{fault}, len(some))...)
	}
	for i := range s.Regions {
		add(impl.FaultRegions, &s.Regions[i].From, &s.Regions[i].Size)
	}
	for i := range s.Plan {
		add(impl.FaultPlan, &s.Plan[i].Part, &s.Plan[i].Budget)
	}
	for i := range s.Ports {
		p := &s.Ports[i]
		add(impl.FaultPorts, &p.Kind, &p.From, &p.To, &p.Most, &p.Fresh)
	}
	for i := range s.Rules {
		add(impl.FaultRules, &s.Rules[i].Part, &s.Rules[i].Fault, &s.Rules[i].Act)
	}
	return fields, faults
}

func TestNumbersOutOfRangeInEveryField(t *testing.T) {
	for _, of := range rightSetups()[:15] {
		s := copyOfSetup(of)
		fields, faults := fieldsOf(&s)
		for i, field := range fields {
			kept := *field
			for _, n := range []int{math.MaxInt, math.MinInt, math.MaxInt - 1, math.MinInt + 1, -1, 1000000000, 1000000001, 1 << 32, 1<<32 + kept, 256 + kept} {
				*field = n
				wantFault(t, s, faults[i])
			}
			*field = kept
		}
		for _, n := range []int{math.MaxInt, math.MinInt} {
			for _, field := range fields {
				*field = n
			}
			wantFault(t, s, impl.FaultRegions)
		}
	}
}

// Numbers near to what a field may be, held against what is told of them.
func TestNumbersNearTheEdgesInEveryField(t *testing.T) {
	right, wrong := 0, 0
	for _, of := range rightSetups()[:15] {
		s := copyOfSetup(of)
		fields, _ := fieldsOf(&s)
		for _, field := range fields {
			kept := *field
			for n := range 210 {
				*field = n
				want := tellSetupFault(s)
				wantFault(t, s, want)
				read := copyOfSetup(s)
				if want != 0 {
					read = impl.Setup{}
					wrong++
				} else {
					right++
				}
				wantRead(t, tellSetupText(s), read, want == 0)
			}
			*field = kept
		}
	}
	if right < 1000 || wrong < 1000 {
		t.Errorf("only %d set-ups were right, and %d not", right, wrong)
	}
}

func TestSetupTextWritesBytes(t *testing.T) {
	two := twoParts()
	two.Codes = []string{"", "\x01\xff"}
	wide := smallSetup()
	wide.Plan[0].Budget = 200
	wide.Codes[0] = strings.Repeat("\x01\x80", 60)
	many := impl.Setup{
		Regions: []impl.Region{{From: 60, Size: 4}, {From: 0, Size: 1}, {From: 1, Size: 2}, {From: 3, Size: 57}},
		Plan:    []impl.Window{{Part: 4, Budget: 128}, {Part: 3, Budget: 127}},
		Ports:   []impl.Port{{Kind: 2, From: 4, To: 3, Most: 1, Fresh: 100}},
		Rules:   []impl.Rule{{Part: 4, Fault: 2, Act: 0}},
		Codes:   []string{"ab", "", "cdef", "\x00\x00"},
	}
	for _, c := range []struct {
		s    impl.Setup
		want string
	}{
		{smallSetup(), "\x01\x00\x04" + "\x01\x01\x09" + "\x00" + "\x00" + "\x06\x01\x07\x10\x00\x00\x00"},
		{two, "\x02\x00\x0a\x0a\x0a" + "\x03\x01\x1e\x02\x28\x01\x32" +
			"\x03\x01\x01\x02\x03\x00\x02\x02\x01\x01\x05\x01\x02\x01\x02\x00" +
			"\x03\x01\x01\x01\x02\x02\x00\x02\x01\x03" + "\x00" + "\x02\x01\xff"},
		{wide, "\x01\x00\x04" + "\x01\x01\xc8\x01" + "\x00" + "\x00" + "\x78" + strings.Repeat("\x01\x80", 60)},
		{many, "\x04\x3c\x04\x00\x01\x01\x02\x03\x39" + "\x02\x04\x80\x01\x03\x7f" + "\x01\x02\x04\x03\x01\x64" + "\x01\x04\x02\x00" +
			"\x02ab" + "\x00" + "\x04cdef" + "\x02\x00\x00"},
	} {
		if text, ok := impl.SetupText(c.s); !ok || text != c.want {
			t.Errorf("SetupText of %s = %q, %v, want %q", shown(c.s), text, ok, c.want)
		}
		wantRead(t, c.want, c.s, true)
	}
}

// Set-ups that differ in one number, or in one code, have unlike texts.
func TestUnlikeSetupsHaveUnlikeTexts(t *testing.T) {
	texts := map[string]impl.Setup{}
	add := func(s impl.Setup) {
		text, ok := impl.SetupText(s)
		if !ok {
			return
		}
		if other, told := texts[text]; told && !sameSetup(other, s) {
			t.Fatalf("%s and %s have one text", shown(s), shown(other))
		}
		texts[text] = copyOfSetup(s)
	}
	for _, of := range rightSetups()[:15] {
		s := copyOfSetup(of)
		add(s)
		fields, _ := fieldsOf(&s)
		for _, field := range fields {
			kept := *field
			for n := range 210 {
				*field = n
				add(s)
			}
			*field = kept
		}
		for i, code := range s.Codes {
			for size := 0; size <= 120; size += 2 {
				s.Codes[i] = codeText(size)
				add(s)
			}
			s.Codes[i] = code
		}
	}
	if len(texts) < 5000 {
		t.Errorf("only %d texts were held against each other", len(texts))
	}
}

func TestReadSetupOfEveryBeginning(t *testing.T) {
	for _, s := range rightSetups() {
		text := tellSetupText(s)
		for size := range len(text) {
			wantUnread(t, text[:size])
		}
	}
}

func TestReadSetupOfWhatStandsBehind(t *testing.T) {
	for _, s := range rightSetups() {
		text := tellSetupText(s)
		for c := range 256 {
			wantUnread(t, text+string([]byte{byte(c)}))
		}
		wantUnread(t, text+text)
		wantUnread(t, text+"\x00\x00")
	}
}

// A text with a byte that is turned may tell another set-up, since it has no sum; what it tells is told by the text alone.
func TestReadSetupOfBytesThatAreTurned(t *testing.T) {
	right, wrong := 0, 0
	for _, s := range []impl.Setup{smallSetup(), fullSetup(), twoParts(), setupOf(3, true, false)} {
		text := tellSetupText(s)
		for at := range len(text) {
			for c := range 256 {
				turned := text[:at] + string([]byte{byte(c)}) + text[at+1:]
				if turned == text {
					continue
				}
				if !wantReadAsTold(t, turned) {
					wrong++
					continue
				}
				right++
				other, _ := impl.ReadSetup(turned)
				again, ok := impl.SetupText(other)
				if !ok || again != turned || sameSetup(other, s) {
					t.Fatalf("%q is read as %s, whose text is %q", turned, shown(other), again)
				}
			}
		}
	}
	if right < 1000 || wrong < 1000 {
		t.Errorf("only %d texts were right, and %d not", right, wrong)
	}
}

func TestReadSetupOfAByteMoreAndAByteLess(t *testing.T) {
	for _, s := range rightSetups()[:15] {
		text := tellSetupText(s)
		for at := range len(text) {
			wantReadAsTold(t, text[:at]+text[at+1:])
			for _, more := range []string{"\x00", "\x01", "\x02", "\x05", "\x7f", "\x80", "\xff"} {
				wantReadAsTold(t, text[:at]+more+text[at:])
			}
		}
	}
}

// longerForms are a number in more bytes than VarText has, in as many as go into 64 bits, too.
func longerForms(n int) []string {
	var out []string
	form := binary.AppendUvarint(nil, uint64(n))
	for range 12 {
		form[len(form)-1] |= 128
		form = append(form, 0)
		out = append(out, string(form))
	}
	// 2 to the power of 64, and of 32, more, which would go round.
	low := []byte{byte(n&127) | 128, byte(n>>7&127) | 128, 128, 128}
	out = append(out, string(low)+"\x80\x80\x80\x80\x80\x02", string(low)+"\x90\x00", string(low)+"\x10")
	return out
}

func TestReadSetupOfLongerForms(t *testing.T) {
	for _, s := range rightSetups()[:15] {
		numbers := numbersIn(s)
		for at, n := range numbers {
			for _, form := range longerForms(n) {
				wantUnread(t, bytesOf(numbers[:at], nil)+form+bytesOf(numbers[at+1:], s.Codes))
			}
		}
		for at, code := range s.Codes {
			for _, form := range longerForms(len(code)) {
				wantUnread(t, bytesOf(numbers, s.Codes[:at])+form+code+bytesOf(nil, s.Codes[at+1:]))
			}
		}
	}
}

// placesOfCounts tells at which of the numbers of a set-up its counts stand.
func placesOfCounts(s impl.Setup) []int {
	regions := 0
	windows := regions + 1 + 2*len(s.Regions)
	ports := windows + 1 + 2*len(s.Plan)
	rules := ports + 1 + 5*len(s.Ports)
	return []int{regions, windows, ports, rules}
}

func TestReadSetupOfOtherCounts(t *testing.T) {
	great := []int{13, 100, 127, 128, 255, 256, 300, 20000, 65536, 1 << 30, 999999999, 1000000000, 1000000001, 1 << 31, 1 << 32, 1 << 40, math.MaxInt}
	for _, s := range rightSetups()[:15] {
		numbers := numbersIn(s)
		for _, at := range placesOfCounts(s) {
			kept := numbers[at]
			for n := range 20 {
				numbers[at] = n
				wantReadAsTold(t, bytesOf(numbers, s.Codes))
			}
			for _, n := range great {
				numbers[at] = n
				wantUnread(t, bytesOf(numbers, s.Codes))
				wantUnread(t, bytesOf(numbers[:at+1], nil))
				wantUnread(t, bytesOf(numbers[:at+1], nil)+strings.Repeat("\x01", 50000))
			}
			numbers[at] = kept + 1
			wantUnread(t, bytesOf(numbers[:at+1], nil))
			numbers[at] = kept
		}
		text := bytesOf(numbers, s.Codes[:len(s.Codes)-1])
		for _, size := range great {
			wantUnread(t, text+string(binary.AppendUvarint(nil, uint64(size)))+"ab")
		}
	}
}

// Fewer codes than regions, and more of them, are not to be told from a text that is too short or too long.
func TestReadSetupOfOtherCodes(t *testing.T) {
	for regions := 1; regions <= 4; regions++ {
		s := setupOf(regions, true, true)
		numbers := numbersIn(s)
		for codes := range 9 {
			text := bytesOf(numbers, slices.Repeat([]string{"\x01\x02"}, codes))
			if right := wantReadAsTold(t, text); right != (codes == regions) {
				t.Fatalf("%d codes of %d regions are read: %v", codes, regions, right)
			}
		}
		for at := range regions {
			for _, size := range []int{1, 3, 119, 121, 122, 123, 127, 128, 254, 255, 256, 16384, 19998, 20000, 20001, 20002, 60000} {
				other := copyOfSetup(s)
				other.Codes[at] = codeText(size)
				wantUnread(t, tellSetupText(other))
			}
		}
	}
}

func wrongSetups() []impl.Setup {
	out := []impl.Setup{{}}
	for fault := 1; fault <= 6; fault++ {
		for _, one := range spoilers()[fault] {
			s := copyOfSetup(twoParts())
			one(&s)
			out = append(out, s)
		}
	}
	s := fullSetup()
	for _, rules := range wrongTables() {
		s.Rules = rules
		out = append(out, s)
	}
	s = fullSetup()
	for _, plan := range wrongPlans() {
		s.Plan = plan
		out = append(out, s)
	}
	s = fullSetup()
	for _, p := range wrongPorts() {
		s.Ports = slices.Concat(fullSetup().Ports[:3], []impl.Port{p})
		out = append(out, s)
	}
	return out
}

func TestReadSetupOfSetupsThatAreNotRight(t *testing.T) {
	for _, s := range wrongSetups() {
		if tellSetupFault(s) == 0 {
			t.Fatalf("%s is right, and should not be", shown(s))
		}
		// A number below 0 is written as the one that goes round to it.
		wantUnread(t, tellSetupText(s))
	}
}

func TestReadSetupOfLongTexts(t *testing.T) {
	for _, size := range []int{1000, 5000, 20000, 20001, 70000, 1000000} {
		for c := range 256 {
			if size > 70000 && c%16 != 0 {
				continue
			}
			wantUnread(t, strings.Repeat(string([]byte{byte(c)}), size))
		}
		wantUnread(t, mixedText(size))
		for _, s := range rightSetups()[:15] {
			text := tellSetupText(s)
			wantUnread(t, text+mixedText(size))
			wantUnread(t, text+strings.Repeat("\x00", size))
			wantUnread(t, mixedText(size)+text)
			wantUnread(t, strings.Repeat(text, size/len(text)+2))
		}
	}
}

func TestReadSetupOfAllShortTexts(t *testing.T) {
	right := 0
	textsOf("\x00\x01\x02\x80", 9, func(text string) {
		if wantReadAsTold(t, text) {
			right++
		}
	})
	// None is shorter than 9 bytes: a region From 0, 1 or 2, of the Size 1 or 2, a window of part 1 of the Budget 1 or 2, and a code of nothing.
	if right != 3*2*2 {
		t.Errorf("%d texts were right", right)
	}
}

func drawnPorts(d *drawer, parts int) []impl.Port {
	var out []impl.Port
	for range d.below(7) {
		from := 1 + d.below(parts)
		to := 1 + (from+d.below(parts-1))%parts
		p := impl.Port{Kind: 1, From: from, To: to, Most: 1 + d.below(6)}
		if d.below(2) == 0 {
			p = impl.Port{Kind: 2, From: from, To: to, Most: 1, Fresh: 1 + d.below(100)}
		}
		out = append(out, p)
	}
	return out
}

func drawnSetup(d *drawer) impl.Setup {
	var s impl.Setup
	parts := 1 + d.below(4)
	from := 0
	for range parts {
		from += d.below(6)
		size := 1 + d.below(10)
		s.Regions = append(s.Regions, impl.Region{From: from, Size: size})
		from += size
		s.Codes = append(s.Codes, mixedText(d.below(61)*2))
	}
	slices.Reverse(s.Regions)
	for range 1 + d.below(12) {
		s.Plan = append(s.Plan, impl.Window{Part: 1 + d.below(parts), Budget: 1 + d.below(200)})
	}
	if parts > 1 {
		s.Ports = drawnPorts(d, parts)
	}
	for _, r := range wholeTable() {
		if r.Part <= parts && d.below(2) == 0 {
			s.Rules = append(s.Rules, impl.Rule{Part: r.Part, Fault: r.Fault, Act: 1 + d.below(4)})
		}
	}
	return s
}

func TestDrawnSetupsComeBack(t *testing.T) {
	d := drawer(11)
	for range 5000 {
		s := drawnSetup(&d)
		wantBack(t, s)
		other := copyOfSetup(s)
		fields, _ := fieldsOf(&other)
		*fields[d.below(len(fields))] = d.below(9)
		if d.below(3) == 0 {
			other.Regions = other.Regions[:len(other.Regions)-1]
		}
		wantFault(t, other, tellSetupFault(other))
		wantReadAsTold(t, tellSetupText(other))
	}
}

func TestTextsThatAreDrawn(t *testing.T) {
	d := drawer(12)
	right := 0
	for range 40000 {
		text := []byte(tellSetupText(drawnSetup(&d)))
		for range 1 + d.below(3) {
			at := d.below(len(text))
			switch d.below(4) {
			case 0:
				text = slices.Delete(text, at, at+1)
			case 1:
				text = slices.Insert(text, at, byte(d.below(256)))
			case 2:
				text[at] = byte(d.below(256))
			default:
				text[at] ^= 1 << d.below(8)
			}
		}
		if wantReadAsTold(t, string(text)) {
			right++
		}
	}
	if right < 500 {
		t.Errorf("only %d drawn texts were right", right)
	}
}

// fencedSetup answers a set-up with room ahead of its lists and behind them, and one that has that room as well.
func fencedSetup(s impl.Setup, spare int) (impl.Setup, impl.Setup) {
	var given, memory impl.Setup
	memory.Regions = slices.Repeat([]impl.Region{{From: fence, Size: fence}}, 2+len(s.Regions)+spare)
	given.Regions = memory.Regions[2 : 2+copy(memory.Regions[2:], s.Regions)]
	given.Plan, memory.Plan = fencedWindows(s.Plan, spare)
	memory.Ports = slices.Repeat([]impl.Port{{Kind: fence, From: fence, To: fence, Most: fence, Fresh: fence}}, 2+len(s.Ports)+spare)
	given.Ports = memory.Ports[2 : 2+copy(memory.Ports[2:], s.Ports)]
	given.Rules, memory.Rules = fencedRules(s.Rules, spare)
	memory.Codes = slices.Repeat([]string{"fence"}, 2+len(s.Codes)+spare)
	given.Codes = memory.Codes[2 : 2+copy(memory.Codes[2:], s.Codes)]
	return given, memory
}

func TestSetupsThatAreGivenStay(t *testing.T) {
	for _, s := range slices.Concat(rightSetups(), wrongSetups()) {
		for _, spare := range []int{0, 1, 9} {
			given, memory := fencedSetup(s, spare)
			before := copyOfSetup(memory)
			// What stands in the spare room is no part of the lists.
			wantFault(t, given, tellSetupFault(s))
			if !sameSetup(memory, before) {
				t.Fatalf("%s was changed into %s", shown(before), shown(memory))
			}
		}
	}
}

// spoilSetup writes into all lists, and into the room behind them.
func spoilSetup(s impl.Setup) {
	for i := range s.Regions[:cap(s.Regions)] {
		s.Regions[:cap(s.Regions)][i] = impl.Region{From: fence, Size: fence}
	}
	for i := range s.Plan[:cap(s.Plan)] {
		s.Plan[:cap(s.Plan)][i] = noWindow
	}
	for i := range s.Ports[:cap(s.Ports)] {
		s.Ports[:cap(s.Ports)][i] = impl.Port{Kind: fence}
	}
	for i := range s.Rules[:cap(s.Rules)] {
		s.Rules[:cap(s.Rules)][i] = noRule
	}
	for i := range s.Codes[:cap(s.Codes)] {
		s.Codes[:cap(s.Codes)][i] = "fence"
	}
}

func TestSetupAnswersAreTheirOwn(t *testing.T) {
	for _, s := range rightSetups() {
		text, _ := impl.SetupText(s)
		for range 3 {
			one, _ := impl.ReadSetup(text)
			two, _ := impl.ReadSetup(text)
			spoilSetup(one)
			if !sameSetup(two, s) {
				t.Fatalf("two answers share memory: %s", shown(two))
			}
			wantBack(t, two)
		}
	}
}

// The bytes of a text are written over, as nobody should, so that an answer that shares them is seen.
func TestSetupAnswersShareNoBytes(t *testing.T) {
	for _, s := range rightSetups() {
		want, _ := impl.SetupText(s)
		memory := []byte(want)
		read, ok := impl.ReadSetup(unsafe.String(unsafe.SliceData(memory), len(memory)))
		clear(memory)
		if !ok || !sameSetup(read, s) {
			t.Fatalf("a set-up shares memory with its text: %s", shown(read))
		}
		given := copyOfSetup(s)
		var codes [][]byte
		for i, code := range s.Codes {
			codes = append(codes, []byte(code))
			given.Codes[i] = unsafe.String(unsafe.SliceData(codes[i]), len(code))
		}
		text, ok := impl.SetupText(given)
		for _, code := range codes {
			clear(code)
		}
		if !ok || text != want {
			t.Fatalf("a text shares memory with its codes: %q", text)
		}
	}
}

// What was asked ahead, right or wrong, leaves nothing behind.
func TestSetupsAreAnsweredAlike(t *testing.T) {
	setups := slices.Concat(rightSetups(), wrongSetups()[:40])
	texts := []string{"", "\x01", "\xff\xff", mixedText(3000)}
	for _, s := range setups {
		text := tellSetupText(s)
		texts = append(texts, text, text[:len(text)/2], text+"\x00")
	}
	for range 10 {
		slices.Reverse(setups)
		slices.Reverse(texts)
		for _, s := range setups {
			wantFault(t, s, tellSetupFault(s))
		}
		for _, text := range texts {
			wantReadAsTold(t, text)
		}
	}
}

// Who asks at the same time as others, of the same set-up, is answered as if alone.
func TestSetupsOfManyAtOnce(t *testing.T) {
	s := fullSetup()
	text := tellSetupText(s)
	var all sync.WaitGroup
	for range 16 {
		all.Go(func() {
			for range 200 {
				told, ok := impl.SetupText(s)
				read, right := impl.ReadSetup(text)
				_, cut := impl.ReadSetup(text[:len(text)-1])
				if impl.SetupFault(s) != 0 || !ok || told != text || !right || !sameSetup(read, s) || cut {
					t.Errorf("a set-up is told in another way")
					return
				}
			}
		})
	}
	all.Wait()
}
