package tests

import (
	"fmt"
	"math"
	"slices"
	"strconv"
	"strings"
	"sync"
	"testing"
	"unsafe"

	"loop.example/g00200/impl"
)

const newShown = "state 0 given 0 left 0 alarm none\n"

func tellShown(d impl.Device) string {
	if !tellDeviceOk(d) {
		return ""
	}
	return fmt.Sprintf("state %d given %d left %d alarm %s\n", d.Pump.State, d.Pump.Given, d.Pump.Left, namesOfSenses()[d.Guard.Alarm])
}

func tellLived(d impl.Device) string {
	out := ""
	for _, tick := range d.Ticks {
		out += " " + strconv.Itoa(tick.Pulses)
	}
	if out != "" {
		out = out[1:] + "\n"
	}
	return out + tellShown(d)
}

// tellConsole shows, behind a fault, the life of nothing.
func tellConsole(text string) string {
	ins, fault := tellScript(text)
	d, _ := tellLife(ins)
	if fault != 0 {
		return tellLived(d) + "fault " + strconv.Itoa(fault) + "\n"
	}
	return tellLived(d)
}

func wantShown(t *testing.T, d impl.Device, want string) {
	t.Helper()
	if got := impl.ShowDevice(d); got != want {
		t.Errorf("ShowDevice(%s) = %q, want %q", shownDevice(d), got, want)
	}
}

func wantConsole(t *testing.T, text string, want string) {
	t.Helper()
	if got := impl.Console(text); got != want {
		t.Errorf("Console of %d bytes (%.200q) = %q, want %q", len(text), text, got, want)
	}
}

// wantConsoleFault asks for what is shown of a new device, and the line of the fault.
func wantConsoleFault(t *testing.T, text string, line string) {
	t.Helper()
	wantConsole(t, text, "state 0 given 0 left 0 alarm none\nfault "+line+"\n")
}

func TestShowANewDevice(t *testing.T) {
	wantShown(t, impl.DeviceNew(), newShown)
	wantShown(t, newDevice(), newShown)
	wantShown(t, impl.Device{}, "")
}

func TestShowDevicesInTheMidstOfLives(t *testing.T) {
	for _, c := range []struct {
		ins  []impl.In
		want string
	}{
		{lifeOf(5), newShown},
		{lifeOf(1, typedIn("b2\n1\n9\n")), "state 1 given 4 left 5 alarm none\n"},
		{lifeOf(3, typedIn("b2\n1\n9\n")), "state 1 given 8 left 1 alarm none\n"},
		{lifeOf(4, typedIn("b2\n1\n9\n")), "state 2 given 9 left 0 alarm none\n"},
		{lifeOf(54, typedIn("b2\n1\n9\n")), "state 2 given 10 left 0 alarm none\n"},
		{lifeOf(0, typedIn("b2\n1\n9\n"), typedIn("p")), "state 3 given 2 left 7 alarm none\n"},
		{lifeOf(0, typedIn("b2\n1\n9\n"), feltIn(4)), "state 1 given 2 left 7 alarm door\n"},
		{lifeOf(3, typedIn("b2\n1\n9\n"), feltIn(4), feltIn(1)), "state 1 given 2 left 7 alarm block,door\n"},
		{lifeOf(1, typedIn("b2\n1\n9\n"), feltIn(4), typedIn("s")), "state 1 given 6 left 3 alarm none\n"},
		{lifeOf(0, typedIn("b2\n1\n9\n"), typedIn("x")), "state 0 given 2 left 0 alarm none\n"},
		{lifeOf(2, typedIn("b1\n1\n5000\no7\n")), "state 1 given 10 left 4997 alarm none\n"},
		{lifeOf(0, feltIn(15)), "state 0 given 0 left 0 alarm block,air,door,power\n"},
	} {
		wantShown(t, livedOf(t, c.ins), c.want)
	}
}

func TestShowDevicesOfEachNumber(t *testing.T) {
	d := deviceOf(pumpAt(1, 0, 4))
	for left := 1; left <= 5000; left++ {
		d.Pump.Left = left
		wantShown(t, d, fmt.Sprintf("state 1 given %d left %d alarm none\n", d.Pump.Given, left))
	}
	for _, given := range []int{0, 1, 9, 10, 99, 100, 12345, 1000000000, impl.Big - 1, impl.Big} {
		d.Pump.Given = given
		wantShown(t, d, "state 1 given "+strconv.Itoa(given)+" left 5000 alarm none\n")
	}
	for _, given := range []int{-1, impl.Big + 1, math.MaxInt, math.MinInt} {
		d.Pump.Given = given
		wantShown(t, d, "")
	}
	for bits, names := range namesOfSenses() {
		one := newDevice()
		one.Guard.Alarm = bits
		wantShown(t, one, "state 0 given 0 left 0 alarm "+names+"\n")
	}
	for _, bits := range wrongBits() {
		one := newDevice()
		one.Guard.Alarm = bits
		wantShown(t, one, "")
	}
}

func TestShowDevicesThatAreRightAndWrong(t *testing.T) {
	states := map[int]int{}
	for _, d := range rightDevices() {
		wantShown(t, d, tellShown(d))
		states[d.Pump.State]++
		if impl.ShowDevice(d) == "" {
			t.Errorf("nothing is shown of %s", shownDevice(d))
		}
	}
	if len(states) != 4 {
		t.Errorf("they were in the states %v", states)
	}
	for _, p := range rightPumps() {
		wantShown(t, deviceOf(p), tellShown(deviceOf(p)))
	}
	for _, d := range wrongDevices() {
		wantShown(t, d, "")
	}
	d := drawer(201)
	for range 20000 {
		one := drawnDevice(&d)
		wantShown(t, one, tellShown(one))
	}
}

// What isn't named is not shown.
func TestShowDeviceOfOtherThings(t *testing.T) {
	for _, d := range rightDevices() {
		want := impl.ShowDevice(d)
		d.Menu, d.Ticks, d.Refused = topMenu(), someTicks(7), 3
		d.Guard.Past = []int{1, 2}
		wantShown(t, d, want)
		d.Menu, d.Ticks, d.Refused = impl.Menu{At: 4, Bolus: true, Digits: "77"}, nil, impl.MaxNumber
		d.Guard.Past = nil
		wantShown(t, d, want)
	}
}

func TestConsoleByteByByte(t *testing.T) {
	for text, want := range map[string]string{
		"":               newShown,
		"\n":             newShown,
		"# a":            newShown,
		"  \n# tick\n\n": newShown,
		"tick":           "0\n" + newShown,
		"tick\n":         "0\n" + newShown,
		"tick\ntick\n":   "0 0\n" + newShown,
		"many 5":         "0 0 0 0 0\n" + newShown,
		"# a\nkeys b2.1.9.\n\nfeel door\nmany 2\nkeys s\n": "2 0 0 0 2\nstate 1 given 4 left 5 alarm none\n",
		"keys b3.2.8.\nmany 7\n":                           "1 2 1 2 1 1 0 0\nstate 2 given 8 left 0 alarm none\n",
		"keys b1.1.5.o7.\nmany 6":                          "4 4 2 1 1 0 0\nstate 2 given 12 left 0 alarm none\n",
		"keys o7.\nmany 3":                                 "0 0 0 0\n" + newShown,
		"keys b2.1.7.\nkeys p\nmany 2\nkeys g\nmany 2":     "2 0 0 0 2 2 1\nstate 2 given 7 left 0 alarm none\n",
		"keys b2.1.7.\nkeys p":                             "2 0\nstate 3 given 2 left 5 alarm none\n",
		"keys b2.1.7.\nkeys x\ntick":                       "2 0 0\nstate 0 given 2 left 0 alarm none\n",
		"keys b\nkeys 2\nkeys .1\nkeys .9\nkeys .\ntick":   "0 0 0 0 2 2\nstate 1 given 4 left 5 alarm none\n",
		"feel block,power":                                 "0\nstate 0 given 0 left 0 alarm block,power\n",
		"feel air\nfeel door\nfeel none":                   "0 0 0\nstate 0 given 0 left 0 alarm air,door\n",
		"feel air\nkeys s":                                 "0 0\n" + newShown,
		"link 00":                                          "0\n" + newShown,
		"link " + figuresOf(tellOrderText(basalOf(1, 2, 3))) + "\nmany 6":                           "0 1 0 1 0 1 0\nstate 2 given 3 left 0 alarm none\n",
		"feel air\nlink " + figuresOf(tellOrderText(orderSeen)) + "\n":                              "0 0\n" + newShown,
		"keys b3.1.5000.\nlink " + figuresOf(tellOrderText(bolusOf(100))) + "\nmany 10\n":           "3 6 6 6 6 3 0 0 0 0 3 6\nstate 1 given 39 left 4982 alarm none\n",
		"  keys   b2.1.3.  \n#keys x\n   # keys x\n tick \nmany  1\n":                               "2 1 0\nstate 2 given 3 left 0 alarm none\n",
		"link " + figuresOf(tellOrderText(basalOf(3, 1, 2))) + "\nmany 50\nmany 50\nmany 49":        "2" + strings.Repeat(strings.Repeat(" 0", 49)+" 1", 2) + strings.Repeat(" 0", 49) + "\nstate 2 given 4 left 0 alarm none\n",
		"keys b2.1.9.\nmany 1\nfeel block\nfeel air\nkeys s\nkeys s\nfeel power\n":                  "2 2 0 0 2 2 0\nstate 1 given 8 left 1 alarm power\n",
		"keys b1.50.1.\nmany 49\nmany 50\nmany 50":                                                  strings.Repeat("0 ", 49) + "1" + strings.Repeat(strings.Repeat(" 0", 49)+" 1", 2) + "\nstate 2 given 3 left 0 alarm none\n",
		strings.Repeat("many 50\n", 3) + "# full\n\n":                                               strings.Repeat("0 ", 149) + "0\n" + newShown,
		"keys ....................\nkeys ~~~~~~~~~~~~~~~~~~~~\nkeys b2.1.9.ccccccccccco\nkeys 1.\n": "0 0 2 3\nstate 1 given 5 left 5 alarm none\n",
		"keys b2.1.9.\nlink " + strings.Repeat("00", 40) + "\nfeel block,air,door,power\nkeys s\n":  "2 2 0 2\nstate 1 given 6 left 3 alarm none\n",
	} {
		if told := tellConsole(text); told != want {
			t.Errorf("%.90q is told as %q, want %q", text, told, want)
		}
		wantConsole(t, text, want)
	}
}

func TestConsoleOfFaults(t *testing.T) {
	for text, line := range map[string]string{
		"x": "1", "\nx": "2", "tick\n\nx\ntick": "3", "feel what\n": "1", "tick 1": "1", "many 0": "1", "many 51": "1", "keys": "1", "link": "1", "keys b2.1.9.\nmany 7\nfeel\n": "3", "feel air\n\t": "2", "feel air\nTICK\nwhat": "2",
		"many 50\nmany 50\nmany 50\ntick": "4", "keys b2.1.9.\nmany 50\nmany 50\nmany 50\n": "4", strings.Repeat("\n", 119) + "x": "120", strings.Repeat("tick\n", 119) + "x": "120",
		strings.Repeat("\n", 121): "-1", strings.Repeat("tick\n", 121): "-1", strings.Repeat("\n", 120) + "x": "-1", "x" + strings.Repeat("\n", 121): "-1", strings.Repeat("x", 3001): "-1", strings.Repeat("x", 3000): "1", "keys b2.1.9.\n" + strings.Repeat("#"+strings.Repeat(" ", 500)+"\n", 6): "-1", strings.Repeat(" ", 100000): "-1",
	} {
		wantConsoleFault(t, text, line)
	}
	for _, line := range wrongLines() {
		wantConsoleFault(t, line, "1")
		wantConsoleFault(t, "keys b2.1.9.\nfeel air\n\n"+line+"\ntick", "4")
	}
}

// pieceOf is one of the texts.
func pieceOf(d *drawer, texts []string) string {
	return texts[d.below(len(texts))]
}

func linesOfEverySort() ([]string, []string, []string) {
	var rights []string
	for line := range rightLines() {
		if len(line) < 100 {
			rights = append(rights, line)
		}
	}
	for n := range 50 {
		rights = append(rights, "many "+strconv.Itoa(n+1))
	}
	slices.Sort(rights)
	isLong := func(line string) bool { return len(line) > 100 }
	return rights, slices.DeleteFunc(passedLines(), isLong), slices.DeleteFunc(wrongLines(), isLong)
}

// drawnScript is of right lines mostly, and some that are passed over; a few of them are wrong.
func drawnScript(d *drawer) string {
	rights, passed, wrongs := linesOfEverySort()
	text := ""
	for range d.below([]int{4, 10, 30, 140}[d.below(4)]) {
		switch n := d.below(60); {
		case n == 0:
			text += pieceOf(d, wrongs)
		case n < 20:
			text += pieceOf(d, passed)
		case n < 30:
			text += "tick"
		default:
			text += pieceOf(d, rights)
		}
		text += "\n"
	}
	if d.below(2) == 0 {
		text = strings.TrimSuffix(text, "\n")
	}
	return text
}

func TestDrawnScripts(t *testing.T) {
	d := drawer(202)
	seen := map[string]int{}
	for range 6000 {
		text := drawnScript(&d)
		wantToldScript(t, text)
		wantConsole(t, text, tellConsole(text))
		switch ins, fault := tellScript(text); {
		case fault == -1:
			seen["too long"]++
		case fault > 0:
			seen["wrong"]++
		case len(ins) > 30:
			seen["long and right"]++
		default:
			seen["right"]++
		}
	}
	if len(seen) != 4 || seen["too long"] < 50 || seen["wrong"] < 500 || seen["long and right"] < 300 || seen["right"] < 500 {
		t.Errorf("the scripts were %v", seen)
	}
}

func TestScriptsOfAllShortTexts(t *testing.T) {
	pieces := []string{"tick", "feel", "keys", "link", "many", " ", "\n", "none", "50", "00", "#", "."}
	textsOf("abcdefghijkl", 4, func(picks string) {
		text := ""
		for i := range len(picks) {
			text += pieces[picks[i]-'a']
		}
		wantToldScript(t, text)
	})
	textsOf("adegikl", 3, func(picks string) {
		text := ""
		for i := range len(picks) {
			text += pieces[picks[i]-'a'] + " " + pieces[(int(picks[i])*5)%12]
		}
		wantToldScript(t, text)
		wantConsole(t, text, tellConsole(text))
	})
}

// Texts of any bytes: mostly they are wrong at the first line, whatever it is.
func TestScriptsOfDrawnBytes(t *testing.T) {
	d := drawer(203)
	pieces := []string{"tick", "feel ", "keys ", "link ", "many ", " ", "\n", "\n", "none", "air", "5", "0a", "#", ".", "s", "\n\n", "\ntick\n"}
	for range 20000 {
		text := ""
		for range d.below(20) {
			if d.below(25) == 0 {
				text += string([]byte{byte(d.below(256))})
				continue
			}
			text += pieceOf(&d, pieces)
		}
		wantToldScript(t, text)
		wantConsole(t, text, tellConsole(text))
	}
}

// drawnSaid is an input that one line can tell.
func drawnSaid(d *drawer) impl.In {
	switch d.below(8) {
	case 0:
		return feltIn(d.below(16) * d.below(2))
	case 1:
		return linked(drawnLink(d))
	case 2, 3:
		return typedIn(strings.Map(func(key rune) rune {
			if key == 10 || key > 32 && key < 127 && key != '.' {
				return key
			}
			return 'c'
		}, drawnTyped(d)))
	case 4:
		return typedIn("cs")
	}
	return impl.In{}
}

func lineOfIn(in impl.In) string {
	switch {
	case in.Bits != 0:
		return "feel " + namesOfSenses()[in.Bits]
	case in.Keys != "":
		return "keys " + strings.ReplaceAll(in.Keys, "\n", ".")
	case in.Link != "":
		return "link " + figuresOf(in.Link)
	}
	return "tick"
}

// scriptOf tells ticks of nothing as one line, where there are several.
func scriptOf(ins []impl.In) string {
	text := ""
	for at := 0; at < len(ins); {
		many := 0
		for many < 50 && at+many < len(ins) && ins[at+many] == (impl.In{}) {
			many++
		}
		if many > 1 {
			text += fmt.Sprintf("many %d\n", many)
			at += many
			continue
		}
		text += lineOfIn(ins[at]) + "\n"
		at++
	}
	return text
}

// saidLives are lives that fit into a script.
func saidLives(seed int, many int) [][]impl.In {
	d := drawer(seed)
	out := [][]impl.In{nil, lifeOf(1), lifeOf(150), lifeOf(149, typedIn("b2\n3\n100\n"))}
	for len(out) < many {
		var ins []impl.In
		for range d.below(151) {
			ins = append(ins, drawnSaid(&d))
			if d.below(9) == 0 {
				ins = append(ins, make([]impl.In, d.below(40))...)
			}
		}
		ins = ins[:min(len(ins), 150)]
		if text := scriptOf(ins); len(text) <= 3000 && strings.Count(text, "\n") <= 120 {
			out = append(out, ins)
		}
	}
	return out
}

func TestLivesWrittenAsScriptsComeBack(t *testing.T) {
	pulses, ticks := 0, 0
	for _, ins := range saidLives(204, 1500) {
		text := scriptOf(ins)
		wantScript(t, text, ins, 0)
		wantScript(t, strings.TrimSuffix(text, "\n"), ins, 0)
		lived := livedOf(t, ins)
		want, _ := tellLife(ins)
		wantConsole(t, text, tellLived(want))
		wantConsole(t, strings.TrimSuffix(text, "\n"), tellLived(lived))
		wantShown(t, lived, tellShown(want))
		ticks += len(ins)
		pulses += lived.Pump.Given
	}
	if ticks < 30000 || pulses < 3000 {
		t.Errorf("%d ticks gave %d pulses", ticks, pulses)
	}
}

// withPassed puts lines that are passed over ahead of each of the others, and behind them; it tells at which line each other one stands then.
func withPassed(d *drawer, lines []string) (string, []int) {
	_, passed, _ := linesOfEverySort()
	text, at := "", 0
	var places []int
	for i := range len(lines) + 1 {
		for range d.below(3) {
			text += pieceOf(d, passed) + "\n"
			at++
		}
		if i < len(lines) {
			at++
			text += lines[i] + "\n"
			places = append(places, at)
		}
	}
	return text, places
}

func TestLinesThatArePassedOverChangeNothing(t *testing.T) {
	d := drawer(205)
	rights, _, wrongs := linesOfEverySort()
	lived := 0
	for range 3000 {
		var lines []string
		for range d.below(25) {
			lines = append(lines, pieceOf(&d, rights))
		}
		if len(lines) > 0 && d.below(3) == 0 {
			lines[d.below(len(lines))] = pieceOf(&d, wrongs)
		}
		plain := strings.Join(lines, "\n")
		ins, fault := impl.ReadScript(plain)
		text, places := withPassed(&d, lines)
		if len(text) > 3000 || fault == -1 {
			continue
		}
		if fault > 0 {
			wantScriptFault(t, text, places[fault-1])
			wantConsoleFault(t, text, strconv.Itoa(places[fault-1]))
			continue
		}
		lived++
		wantScript(t, text, ins, 0)
		wantConsole(t, text, impl.Console(plain))
	}
	if lived < 300 {
		t.Errorf("only %d scripts were right", lived)
	}
	for _, line := range passedLines() {
		for _, text := range []string{"keys b2.1.9.\nmany 3\n", "feel air\ntick\nkeys s\n", ""} {
			wantConsole(t, line+"\n"+text, impl.Console(text))
			wantConsole(t, text+line, impl.Console(text))
			wantConsole(t, text+line+"\n", impl.Console(text))
			wantConsole(t, strings.ReplaceAll(text, "\n", "\n"+line+"\n"), impl.Console(text))
		}
	}
}

func TestConsoleOfManyIsAsOfManyTicks(t *testing.T) {
	for n := 1; n <= 50; n++ {
		for _, around := range [][2]string{{"", ""}, {"keys b2.3.90.\n", "keys x\n"}, {"keys b1.1.9.\nfeel air\n", "keys s\ntick\n"}, {"link " + figuresOf(tellOrderText(basalOf(3, 1, 5000))) + "\n", "keys o9.\n"}} {
			want := impl.Console(around[0] + strings.Repeat("tick\n", n) + around[1])
			wantConsole(t, around[0]+"many "+strconv.Itoa(n)+"\n"+around[1], want)
			wantConsole(t, around[0]+strings.Repeat("feel none\n", n)+around[1], want)
			if n > 1 {
				wantConsole(t, fmt.Sprintf("%smany %d\nmany %d\n%s", around[0], n/2, n-n/2, around[1]), want)
			}
		}
	}
}

// extentsOfIns leaves out texts of one byte, which may stand in memory that nobody writes into.
func extentsOfIns(ins []impl.In) []extent {
	all := []extent{extentOf(ins)}
	for _, in := range ins {
		for _, text := range []string{in.Keys, in.Link} {
			if len(text) > 1 {
				all = append(all, textExtent(text))
			}
		}
	}
	return slices.DeleteFunc(all, func(e extent) bool { return e.from == e.to })
}

// What was read stays, whatever is done then with the memory of the script.
func TestScriptsAreNotKept(t *testing.T) {
	d := drawer(206)
	for i := range 2000 {
		text := drawnScript(&d)
		if i == 0 {
			text = "keys b2.1.9.\nkeys abcd\nlink 616263\nfeel air\nmany 3\nkeys ~~~~\n"
		}
		want, fault := tellScript(text)
		shown := tellConsole(text)
		memory := append([]byte(text), 'x')
		given := unsafe.String(&memory[0], len(text))
		first, at := impl.ReadScript(given)
		console := impl.Console(given)
		second, _ := impl.ReadScript(given)
		if string(memory) != text+"x" {
			t.Fatalf("%.90q was written into", text)
		}
		wantOwnMemory(t, "ReadScript", []extent{extentOf(memory)}, extentsOfIns(first))
		wantOwnMemory(t, "ReadScript, again", append(extentsOfIns(first), extentOf(memory)), extentsOfIns(second))
		wantOwnMemory(t, "Console", []extent{extentOf(memory)}, []extent{textExtent(console)})
		for i := range memory {
			memory[i] = '?'
		}
		for i := range first[:cap(first)] {
			first[:cap(first)][i] = impl.In{Bits: fence, Keys: "?", Link: "?"}
		}
		if !slices.Equal(second, want) || at != fault || console != shown {
			t.Fatalf("of %.90q there came %s, %d, and %q", text, shownIns(second), at, console)
		}
		wantScript(t, text, want, fault)
	}
}

func TestShowDeviceLeavesWhatIsGiven(t *testing.T) {
	for _, one := range someDevices() {
		for _, spare := range []int{0, 1, 12} {
			given := copyOfDevice(one)
			past, pastMemory := fencedNumbers(one.Guard.Past, spare)
			ticks, tickMemory := fencedTicks(one.Ticks, spare)
			given.Guard.Past, given.Ticks = past, ticks
			pastBefore, ticksBefore := slices.Clone(pastMemory), slices.Clone(tickMemory)
			for range 3 {
				wantShown(t, given, tellShown(one))
			}
			if !slices.Equal(pastMemory, pastBefore) || !slices.Equal(tickMemory, ticksBefore) || !sameDevice(given, one) {
				t.Fatalf("of %s, ShowDevice made %s", shownDevice(one), shownDevice(given))
			}
		}
	}
}

// What was asked ahead, of others, leaves nothing behind.
func TestScriptsAreAnsweredAlike(t *testing.T) {
	d := drawer(207)
	var texts, shown []string
	for range 300 {
		texts = append(texts, drawnScript(&d))
		shown = append(shown, impl.Console(texts[len(texts)-1]))
	}
	for range 3 {
		for i := len(texts) - 1; i >= 0; i-- {
			impl.ReadScript(texts[(i*7+1)%len(texts)])
			wantConsole(t, texts[i], shown[i])
			wantToldScript(t, texts[i])
		}
	}
}

func TestConsolesOfManyAtOnce(t *testing.T) {
	d := drawer(208)
	var texts, shown []string
	for range 60 {
		texts = append(texts, drawnScript(&d))
		shown = append(shown, tellConsole(texts[len(texts)-1]))
	}
	device := livedOf(t, lifeOf(3, typedIn("b2\n1\n9\n"), feltIn(5)))
	var all sync.WaitGroup
	for part := range 16 {
		all.Go(func() {
			for i := range texts {
				at := (i*7 + part) % len(texts)
				wantConsole(t, texts[at], shown[at])
				wantToldScript(t, texts[at])
			}
			wantShown(t, device, "state 1 given 2 left 7 alarm block,door\n")
		})
	}
	all.Wait()
}
