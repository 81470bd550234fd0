package tests

import (
	"encoding/hex"
	"fmt"
	"regexp"
	"slices"
	"strconv"
	"strings"
	"testing"

	"loop.example/g00200/impl"
)

var (
	plainLine  = regexp.MustCompile(`^[ -~]{0,600}$`)
	passedLine = regexp.MustCompile(`^ *(#.*)?$`)
	tickLine   = regexp.MustCompile(`^ *tick *$`)
	oneLine    = regexp.MustCompile(`^ *(feel|keys|link|many) +([!-~]+) *$`)
	fewTicks   = regexp.MustCompile(`^([1-9]|[1-4][0-9]|50)$`)
	linkBytes  = regexp.MustCompile(`^([0-9a-f]{2}){1,40}$`)
)

// tellScriptLine tells a line by its form alone.
func tellScriptLine(line string) ([]impl.In, bool) {
	switch parts := oneLine.FindStringSubmatch(line); {
	case !plainLine.MatchString(line), len(strings.Fields(line)) > 10:
		return nil, false
	case passedLine.MatchString(line):
		return nil, true
	case tickLine.MatchString(line):
		return make([]impl.In, 1), true
	case parts == nil:
		return nil, false
	default:
		return tellWordAndText(parts[1], parts[2])
	}
}

func tellWordAndText(word string, text string) ([]impl.In, bool) {
	switch word {
	case "feel":
		bits := slices.Index(namesOfSenses(), text)
		return []impl.In{feltIn(bits)}, bits >= 0
	case "keys":
		return []impl.In{typedIn(strings.Join(strings.Split(text, "."), "\n"))}, len(text) < 21
	case "link":
		link, _ := hex.DecodeString(text)
		return []impl.In{linked(string(link))}, linkBytes.MatchString(text)
	}
	many, _ := strconv.Atoi(text)
	if !fewTicks.MatchString(text) {
		return nil, false
	}
	return make([]impl.In, many), true
}

func linesWithEnds(text string) []string {
	lines := strings.SplitAfter(text, "\n")
	if last := len(lines) - 1; lines[last] == "" {
		return lines[:last]
	}
	return lines
}

func tellScript(text string) ([]impl.In, int) {
	lines := linesWithEnds(text)
	if len(text) > 3000 || len(lines) > 120 {
		return nil, -1
	}
	var all []impl.In
	for i, line := range lines {
		ins, ok := tellScriptLine(strings.TrimSuffix(line, "\n"))
		if all = append(all, ins...); !ok || len(all) > 150 {
			return nil, i + 1
		}
	}
	return all, 0
}

func wantScript(t *testing.T, text string, want []impl.In, fault int) {
	t.Helper()
	if got, at := impl.ReadScript(text); at != fault || !slices.Equal(got, want) {
		t.Errorf("ReadScript of %d bytes (%.90q) = %d inputs (%.300s), %d, want %d (%.300s), %d", len(text), text, len(got), shownIns(got), at, len(want), shownIns(want), fault)
	}
}

func wantToldScript(t *testing.T, text string) {
	t.Helper()
	want, fault := tellScript(text)
	wantScript(t, text, want, fault)
}

func wantScriptFault(t *testing.T, text string, line int) {
	t.Helper()
	wantScript(t, text, nil, line)
}

// figuresOf is what stands behind `link`.
func figuresOf(link string) string {
	return hex.EncodeToString([]byte(link))
}

// passedLines are passed over; the last ones are at the edges of what PartsOf takes.
func passedLines() []string {
	return []string{
		"", " ", "   ", "#", "# a", "#a", "##", "#tick", "# tick", "  #", "  # many 0", "#many 51 ~", "# feel none", "#.", "#0 1 2 3",
		"# a b c d e f g h i", "   #a  b c d e f g h i j   ", strings.Repeat("#", 600), strings.Repeat(" ", 600), strings.Repeat(" ", 599) + "#", "#" + strings.Repeat(" ", 599),
	}
}

// rightLines tell one tick each.
func rightLines() map[string]impl.In {
	return map[string]impl.In{
		"tick": {}, "  tick": {}, "tick   ": {}, "many 1": {}, " many   1 ": {},
		"feel none": {}, "feel block": feltIn(1), "feel air,door": feltIn(6), "  feel   power ": feltIn(8), "feel block,air,door,power": feltIn(15),
		"keys s": typedIn("s"), "keys b2.1.9.": typedIn("b2\n1\n9\n"), " keys  .": typedIn("\n"), "keys #": typedIn("#"), "keys tick": typedIn("tick"), "keys ~,!": typedIn("~,!"),
		"keys 12345678901234567890": typedIn("12345678901234567890"), "keys ....................": typedIn(strings.Repeat("\n", 20)),
		"link 00": linked("\x00"), "link ff0a": linked("\xff\n"), "  link  78 ": linked("x"), "link " + strings.Repeat("2e", 40): linked(strings.Repeat(".", 40)), "link " + figuresOf(tellOrderText(orderSeen)): linkedIn(orderSeen),
		"keys" + strings.Repeat(" ", 595) + "x": typedIn("x"), strings.Repeat(" ", 596) + "tick": {}, "tick" + strings.Repeat(" ", 596): {},
	}
}

// wrongLines are no lines, and are not passed over.
func wrongLines() []string {
	out := []string{
		"feel", "keys", "link", "many", "feel ", "  keys  ", "link ", "many   ",
		"tick 1", "tick tick", "tick none", "tick #", "tick .", "tick 1 2", "feel none none", "feel block air", "feel block , air", "feel block 1", "feel none #", "keys s s", "keys b 2", "keys . .", "keys s #", "link 00 00", "link 00 #", "many 1 1", "many 1 2 3", "many 2 #", "many 1 tick", "many many 1",
		"many 1 2 3 4 5 6 7 8 9", "keys 1 2 3 4 5 6 7 8 9", "feel 1 2 3 4 5 6 7 8 9",
		"Tick", "TICK", "tICK", "Feel none", "FEEL none", "feel None", "feel NONE", "feel Block", "feel DOOR", "Keys s", "KEYS s", "Link 00", "LINK 00", "Many 1", "MANY 1",
		"tic", "ick", "ticks", "tick.", "tick,", "tick#", "xtick", "ticktick", "fee", "fee none", "feels none", "feelnone", "key s", "keyss", "keyss s", "keyss .", "lin 00", "links 00", "link00", "man 1", "many1", "many# 1",
		"none", "block", "s", "1", "0", "50", "00", "x", ".", ",", "-", "~", "!", "$", ";", "//", "wait", "run", "state", "stop", "give 1", "fault 1", "alarm none", "x #", "a # b", "! tick", "- tick", "'tick'", "\"tick\"",
		"feel 0", "feel 1", "feel 4", "feel 15", "feel x", "feel .", "feel ,", "feel #", "feel bloc", "feel blocks", "feel block,", "feel ,block", "feel block,block", "feel air,block", "feel door,air", "feel power,door", "feel none,air", "feel block,none", "feel block.air", "feel block;air", "feel block,,air", "feel block,air,door,power,", "feel nothing", "feel tick", "feel " + strings.Repeat("x", 595),
		"keys 123456789012345678901", "keys .....................", "keys " + strings.Repeat("s", 22), "keys " + strings.Repeat(".", 40), "keys " + strings.Repeat("b", 276), "keys " + strings.Repeat("b", 595),
		"link 0", "link 000", "link x", "link 0x", "link 0g", "link g0", "link .", "link ..", "link -1", "link +1", "link 0A", "link A0", "link FF", "link fF", "link Ff", "link 00,", "link 0.", "link 0x00", "link none", "link #", "link ##",
		"link " + strings.Repeat("2e", 41), "link " + strings.Repeat("00", 42), "link " + strings.Repeat("0", 79), "link " + strings.Repeat("0", 81), "link " + strings.Repeat("f", 83), "link " + strings.Repeat("ab", 296), "link " + strings.Repeat("78", 297), "link " + strings.Repeat("2e", 39) + "2E", "link " + strings.Repeat("2e", 39) + "2",
		"many 0", "many 00", "many 01", "many 007", "many 050", "many -0", "many -1", "many -50", "many +1", "many +0", "many 51", "many 52", "many 60", "many 99", "many 100", "many 149", "many 150", "many 151", "many 256", "many 257", "many 500", "many 65537", "many 1000000000", "many 1000000001", "many 2147483649", "many 4294967296", "many 4294967297", "many 9223372036854775807", "many 9223372036854775808", "many 18446744073709551616", "many 18446744073709551617", "many 18446744073709551666", "many -18446744073709551615", "many 340282366920938463463374607431768211457", "many " + strings.Repeat("9", 300), "many 1" + strings.Repeat("0", 594), "many 0" + strings.Repeat("0", 300) + "1",
		"many x", "many 1x", "many x1", "many 1.", "many .1", "many 1.0", "many 1,", "many 0x1", "many 1e1", "many 1_0", "many one", "many #", "many tick", "many '1'", "many !", "many ~",
	}
	return append(out, refusedLines()...)
}

// refusedLines are the ones that PartsOf refuses.
func refusedLines() []string {
	return []string{
		"\t", "\ttick", "tick\t", "tick\r", "\r", "\x00", "tick\x00", "\x00tick", "\x1f", "\x7f", "tick\x7f", "\x80", "\xff", "tick \xff", "\u00a0", "tick\u00a0", "\ufefftick", "feel\tnone", "feel none\r", "feel blo\xffck", "keys \xff", "keys é", "keys s\t", "keys b\x0b", "link 00\x00", "link\t00", "many\t1", "many 1\r", "many \u0661", "\x0c",
		"#\t", "#\xff", "# é", "#\x00", "\t#", "\u00a0#", "  \x1f", "# a\r", " \x7f ", "\x85",
		"# a b c d e f g h i j", "#a b c d e f g h i j k", "1 2 3 4 5 6 7 8 9 10 11", "tick 1 2 3 4 5 6 7 8 9 10", "# # # # # # # # # # #",
		strings.Repeat(" ", 601), strings.Repeat("#", 601), "#" + strings.Repeat(" ", 600), strings.Repeat(" ", 600) + "#", "tick" + strings.Repeat(" ", 597), strings.Repeat(" ", 597) + "tick", "keys" + strings.Repeat(" ", 596) + "x", strings.Repeat("x", 601), strings.Repeat(" ", 1400),
	}
}

func TestConstantsOfScripts(t *testing.T) {
	if impl.MaxScript != 3000 || impl.MaxLines != 120 {
		t.Error("MaxScript or MaxLines is another one")
	}
}

func TestScriptsOfNoLines(t *testing.T) {
	for _, text := range []string{"", "\n", "\n\n", " ", " \n", "\n ", "  \n \n\n   ", "#", "#\n", "# a\n", "\n# a", "# a\n# b\n\n#c", " #\n"} {
		wantScript(t, text, nil, 0)
	}
	for _, line := range passedLines() {
		for _, text := range []string{line, line + "\n", "\n" + line, line + "\n" + line, line + "\n\n" + line + "\n"} {
			wantScript(t, text, nil, 0)
		}
	}
}

func TestScriptsOfSomeLines(t *testing.T) {
	nothing := impl.In{}
	for text, want := range map[string][]impl.In{
		"tick":                      {nothing},
		"tick\n":                    {nothing},
		"\ntick":                    {nothing},
		"tick\n\n":                  {nothing},
		"tick\ntick":                {nothing, nothing},
		"tick\n# tick\ntick\n":      {nothing, nothing},
		"many 2":                    {nothing, nothing},
		"many 2\ntick\n":            {nothing, nothing, nothing},
		"feel air":                  {feltIn(2)},
		"feel air\nfeel none\n":     {feltIn(2), nothing},
		"keys b1.2.3.":              {typedIn("b1\n2\n3\n")},
		"keys s\nkeys s\n":          {typedIn("s"), typedIn("s")},
		"link 616263":               {linked("abc")},
		"link 00ff0a20":             {linked("\x00\xff\n ")},
		"link 2e\nkeys .":           {linked("."), typedIn("\n")},
		"keys ...\nlink 0a\nmany 1": {typedIn("\n\n\n"), linked("\n"), nothing},
		"# a\nkeys b2.1.9.\n\nfeel door\nmany 2\nkeys s\n":                    {typedIn("b2\n1\n9\n"), feltIn(4), nothing, nothing, typedIn("s")},
		"many 3\nfeel block,power\nlink 7f\n  keys   x  \n\n   \n#\n tick \n": {nothing, nothing, nothing, feltIn(9), linked("\x7f"), typedIn("x"), nothing},
	} {
		wantScript(t, text, want, 0)
	}
}

func TestScriptsOfEachRightLine(t *testing.T) {
	for line, in := range rightLines() {
		wantScript(t, line, []impl.In{in}, 0)
		wantScript(t, line+"\n", []impl.In{in}, 0)
		wantScript(t, "\n"+line+"\n\n", []impl.In{in}, 0)
		for other, behind := range rightLines() {
			wantScript(t, line+"\n"+other, []impl.In{in, behind}, 0)
			wantScript(t, line+"\n# "+"x\nkeys g\n"+other+"\n", []impl.In{in, typedIn("g"), behind}, 0)
		}
	}
}

func TestScriptsTellTheLineOfAFault(t *testing.T) {
	for _, line := range wrongLines() {
		for _, c := range []struct {
			text  string
			fault int
		}{
			{line, 1}, {line + "\n", 1}, {"\n" + line, 2}, {"tick\n" + line, 2}, {"tick\n" + line + "\ntick\n", 2}, {" \n# a\nfeel air\n\n" + line + "\n\n", 5},
			{"many 50\nmany 50\n\n" + line, 4}, {"many 50\nmany 50\nmany 49\n" + line, 4}, {"many 50\nmany 50\nmany 50\n" + line + "\n", 4}, {strings.Repeat("\n", 119) + line, 120},
		} {
			wantScriptFault(t, c.text, c.fault)
		}
	}
}

func TestScriptsOfTwoFaults(t *testing.T) {
	lines := wrongLines()
	for i, one := range lines {
		for _, other := range []string{lines[(i+1)%len(lines)], lines[(i*7+3)%len(lines)], "tick 1", "many 51", "\t", "#\xff", "feel"} {
			wantScriptFault(t, one+"\n"+other, 1)
			wantScriptFault(t, other+"\n"+one, 1)
			wantScriptFault(t, "tick\n"+one+"\n\n"+other+"\n", 2)
			wantScriptFault(t, "tick\n"+other+"\n\n"+one+"\n", 2)
		}
		// Too many ticks are a fault like any other.
		wantScriptFault(t, "many 50\n"+one+"\nmany 50\nmany 50\ntick\n", 2)
		wantScriptFault(t, "many 50\nmany 50\nmany 50\ntick\n"+one+"\n", 4)
		wantScriptFault(t, "many 50\nmany 50\nmany 50\n\n"+one+"\ntick\n", 5)
		wantScriptFault(t, "many 50\nmany 50\ntick\nmany 50\n"+one+"\n", 4)
	}
}

func TestWordsOfTooManyParts(t *testing.T) {
	rights := map[string]string{"tick": "", "feel": " none", "keys": " s", "link": " 00", "many": " 2"}
	for word, text := range rights {
		wantToldScript(t, word+text)
		if _, fault := impl.ReadScript(word + text); fault != 0 {
			t.Errorf("%s%s is a fault", word, text)
		}
		for _, part := range []string{"0", "1", "2", "50", "none", "s", ".", "#", "tick", "00", "-1", word} {
			for many := 1; many <= 12; many++ {
				wantScriptFault(t, "\n"+word+text+strings.Repeat(" "+part, many), 2)
				wantScriptFault(t, word+text+strings.Repeat("  "+part, many)+"  \ntick\n", 1)
			}
		}
		if text != "" {
			wantScriptFault(t, word, 1)
			wantScriptFault(t, "tick\n"+word+"   \n", 2)
		}
	}
}

func TestFeelOfAllNames(t *testing.T) {
	for bits, names := range namesOfSenses() {
		wantScript(t, "feel "+names, []impl.In{feltIn(bits)}, 0)
		wantScriptFault(t, "feel "+names+",", 1)
		wantScriptFault(t, "feel "+strings.ToUpper(names), 1)
		wantScriptFault(t, "feel "+strings.ReplaceAll(names, ",", " ")+" none", 1)
		wantScriptFault(t, "feel "+strconv.Itoa(bits), 1)
		wantScriptFault(t, names, 1)
		for _, more := range namesOfSenses() {
			wantToldScript(t, "feel "+names+","+more)
			wantToldScript(t, "feel "+names+more)
		}
	}
}

func TestKeysOfEveryLength(t *testing.T) {
	for many := 1; many <= 60; many++ {
		for _, sign := range []string{"s", ".", "#", "~", "!", "b2.1.", "..s"} {
			text := strings.Repeat(sign, many)[:many]
			if many > 20 {
				wantScriptFault(t, "keys "+text, 1)
				continue
			}
			wantScript(t, "keys "+text, []impl.In{typedIn(strings.ReplaceAll(text, ".", "\n"))}, 0)
			wantScript(t, "tick\nkeys "+text+"\n", []impl.In{{}, typedIn(strings.ReplaceAll(text, ".", "\n"))}, 0)
		}
	}
}

func TestKeysOfEverySign(t *testing.T) {
	for sign := 33; sign <= 126; sign++ {
		one := string(rune(sign))
		want := one
		if one == "." {
			want = "\n"
		}
		wantScript(t, "keys "+one, []impl.In{typedIn(want)}, 0)
		wantScript(t, "keys a"+one+"b"+one, []impl.In{typedIn("a" + want + "b" + want)}, 0)
	}
}

func TestLinksOfEveryLength(t *testing.T) {
	for figures := 1; figures <= 140; figures++ {
		text := strings.Repeat("0123456789abcdef", 9)[:figures]
		if figures%2 == 1 || figures > 80 {
			wantScriptFault(t, "link "+text, 1)
			continue
		}
		want, err := hex.DecodeString(text)
		if err != nil {
			t.Fatal(err)
		}
		wantScript(t, "link "+text, []impl.In{linked(string(want))}, 0)
		wantScript(t, "tick\nlink "+text+"\n", []impl.In{{}, linked(string(want))}, 0)
		for at := range figures {
			wantScriptFault(t, "link "+text[:at]+"G"+text[at+1:], 1)
			wantScriptFault(t, "link "+text[:at]+" "+text[at:]+" 00", 1)
			if text[at] >= 'a' {
				wantScriptFault(t, "link "+text[:at]+strings.ToUpper(text[at:at+1])+text[at+1:], 1)
			}
		}
	}
}

func TestLinksOfEveryByte(t *testing.T) {
	for i := range 256 {
		one := string([]byte{byte(i)})
		wantScript(t, fmt.Sprintf("link %02x", i), []impl.In{linked(one)}, 0)
		wantScript(t, fmt.Sprintf("link 00%02xff", i), []impl.In{linked("\x00" + one + "\xff")}, 0)
	}
}

func TestManyOfEveryNumber(t *testing.T) {
	for n := -300; n <= 1100; n++ {
		text := "many " + strconv.Itoa(n)
		if n < 1 || n > 50 {
			wantScriptFault(t, text, 1)
			wantScriptFault(t, "tick\n\n"+text+"\ntick\n", 3)
			continue
		}
		wantScript(t, text, make([]impl.In, n), 0)
		wantScript(t, "keys s\n"+text+"\nkeys g\n", append(lifeOf(n, typedIn("s")), typedIn("g")), 0)
		wantScriptFault(t, "many 0"+strconv.Itoa(n), 1)
		wantScriptFault(t, "many +"+strconv.Itoa(n), 1)
	}
}

func TestManyIsAsManyTicks(t *testing.T) {
	for n := 1; n <= 50; n++ {
		for _, around := range [][2]string{{"", ""}, {"keys b2.1.90.\n", ""}, {"feel air\n", "keys s\n"}, {"many 50\n# a\n\n", "tick\nlink 78"}, {"many 50\nmany 50\n", "feel power\n"}} {
			wantSameScript(t, around[0]+"many "+strconv.Itoa(n)+"\n"+around[1], around[0]+strings.Repeat("tick\n", n)+around[1])
			wantSameScript(t, around[0]+"many "+strconv.Itoa(n)+"\n"+around[1], around[0]+strings.Repeat("feel none\n", n)+around[1])
			wantSameScript(t, around[0]+"many "+strconv.Itoa(n)+"\n"+around[1], around[0]+strings.Repeat("many 1\n", n)+around[1])
		}
	}
}

// wantSameScript asks that both tell the same, in which the fault may stand at another line.
func wantSameScript(t *testing.T, one string, other string) {
	t.Helper()
	ins, fault := impl.ReadScript(one)
	same, otherFault := impl.ReadScript(other)
	if !slices.Equal(ins, same) || (fault == 0) != (otherFault == 0) {
		t.Errorf("%.90q tells %d inputs, %d, and %.90q tells %d, %d", one, len(ins), fault, other, len(same), otherFault)
	}
}

func TestAsManyTicksAsThereMayBe(t *testing.T) {
	numbers := []int{0, 1, 2, 25, 26, 48, 49, 50}
	for _, first := range numbers {
		for _, second := range numbers {
			for _, text := range []string{"many 50\nmany A\nmany B\n", "many A\nmany 50\nmany B\n", "many A\nmany B\nmany 50\n"} {
				a, b := strings.Repeat("many "+strconv.Itoa(first)+"\n", min(first, 1)), strings.Repeat("many "+strconv.Itoa(second)+"\n", min(second, 1))
				text = strings.ReplaceAll(strings.ReplaceAll(text, "many A\n", a), "many B\n", b)
				wantScript(t, text, make([]impl.In, 50+first+second), 0)
				for _, more := range []int{49 - first + 50 - second, 50 - first + 50 - second, 51 - first + 50 - second} {
					if more >= 1 && more <= 50 {
						wantToldScript(t, text+"many "+strconv.Itoa(more))
						wantToldScript(t, text+"many "+strconv.Itoa(more)+"\ntick\n")
						wantToldScript(t, text+strings.Repeat("tick\n", more)+"# a\nkeys s\n")
					}
				}
			}
		}
	}
}

func TestTicksBeyondTheLast(t *testing.T) {
	full := map[string]int{
		"many 50\nmany 50\nmany 50\n": 3, strings.Repeat("many 3\n", 50): 50, "many 50\nmany 50\n" + strings.Repeat("tick\n", 50): 52, strings.Repeat("tick\n", 100) + "\n# a\nmany 50\n": 103,
		"many 37\nmany 49\nmany 50\nkeys s\nfeel air\nlink 00\nmany 11\n": 7, "many 50\nmany 50\nmany 49\nkeys b2.1.9.\n": 4, "many 50\nmany 50\nmany 49\nfeel door\n": 4, "many 50\nmany 50\nmany 49\nlink 616263\n": 4, "many 49\nmany 50\nmany 50\ntick\n": 4,
	}
	for text, lines := range full {
		ins, fault := impl.ReadScript(text)
		if len(ins) != 150 || fault != 0 {
			t.Fatalf("%.90q tells %d inputs, %d", text, len(ins), fault)
		}
		for _, behind := range []string{"\n", "#\n", "   ", "# tick\n\n  #  many 50"} {
			wantScript(t, text+behind, ins, 0)
		}
		for line := range rightLines() {
			wantScriptFault(t, text+line, lines+1)
			wantScriptFault(t, text+line+"\n", lines+1)
			wantScriptFault(t, text+"\n# a\n"+line+"\n"+line+"\n", lines+3)
		}
		for n := range 60 {
			wantScriptFault(t, text+"many "+strconv.Itoa(n), lines+1)
		}
	}
	// What is refused leaves no trace: the next script has all words again.
	wantScript(t, "tick\nmany 2\nfeel air\nkeys s\nlink 00", []impl.In{{}, {}, {}, feltIn(2), typedIn("s"), linked("\x00")}, 0)
}

func TestScriptsAtMaxScript(t *testing.T) {
	remark := "#" + strings.Repeat("x", 598) + "\n"
	full := strings.Repeat(remark, 5)
	for text, want := range map[string]int{
		full: 0, full + "\n": -1, full + " ": -1, full + "x": -1, "\n" + full: -1, "x" + full: -1, full[1:]: 1, full[:len(full)-1]: 0, full[:len(full)-1] + "x": 0, full[:len(full)-1] + "xx": -1,
		strings.Repeat(remark, 4) + strings.Repeat("x", 600): 5, strings.Repeat(remark, 4) + strings.Repeat("x", 601): -1,
		"x\n" + strings.Repeat(remark, 4) + "#" + strings.Repeat("x", 597): 1, "x\n" + strings.Repeat(remark, 4) + "#" + strings.Repeat("x", 598): -1,
		strings.Repeat("x", 3000): 1, strings.Repeat("x", 3001): -1, strings.Repeat(" ", 3000): 1, strings.Repeat(" ", 3001): -1, strings.Repeat("\n", 3001): -1, strings.Repeat("\x00", 3000): 1, strings.Repeat("\xff", 3001): -1, strings.Repeat("é", 1500): 1, strings.Repeat("é", 1501): -1, strings.Repeat("x", 100000): -1,
	} {
		wantScriptFault(t, text, want)
	}
	for size := 2990; size <= 3010; size++ {
		text := "tick\nkeys s\n" + strings.Repeat(remark, 4)
		text += strings.Repeat(" ", size-len(text))
		wantToldScript(t, text)
		wantToldScript(t, text[:size-1]+"\n")
		wantToldScript(t, "\t\n"+text[2:])
		if _, fault := impl.ReadScript(text); (fault == -1) != (size > 3000) {
			t.Errorf("%d bytes are answered by %d", size, fault)
		}
	}
}

func TestScriptsAtMaxLines(t *testing.T) {
	for _, line := range []string{"\n", " \n", "#\n", "tick\n", "# tick\n", "keys s\n", "feel none\n"} {
		for many := 110; many <= 130; many++ {
			text := strings.Repeat(line, many)
			for _, one := range []string{text, strings.TrimSuffix(text, "\n"), text + " ", text + "tick", text + "\n", text + "x", "x\n" + text, text[len(line):] + "\x00\n", text[len(line):] + "x", "x" + text} {
				wantToldScript(t, one)
			}
		}
		for text, want := range map[string]int{
			strings.Repeat(line, 120) + "x": -1, strings.Repeat(line, 119) + "x": 120, strings.Repeat(line, 119) + "x\n": 120, strings.Repeat(line, 119) + "x\n\n": -1, "x\n" + strings.Repeat(line, 119): 1, "x\n" + strings.Repeat(line, 120): -1,
		} {
			wantScriptFault(t, text, want)
		}
	}
	wantScript(t, strings.Repeat("tick\n", 120), make([]impl.In, 120), 0)
	wantScript(t, strings.Repeat("tick\n", 119)+"tick", make([]impl.In, 120), 0)
	wantScriptFault(t, strings.Repeat("tick\n", 121), -1)
	wantScriptFault(t, strings.Repeat("tick\n", 120)+"tick", -1)
	wantScriptFault(t, strings.Repeat("tick\n", 120)+"\n", -1)
	wantScriptFault(t, strings.Repeat("\n", 120), 0)
	wantScriptFault(t, strings.Repeat("\n", 121), -1)
}

func TestScriptsThatPartsOfRefuses(t *testing.T) {
	for _, line := range refusedLines() {
		if _, ok := impl.PartsOf(line); ok {
			t.Fatalf("PartsOf takes %.40q", line)
		}
		wantScriptFault(t, "tick\n\n"+line+"\ntick\n", 3)
		wantScriptFault(t, strings.Repeat("#\n", 100)+line, 101)
	}
}

func TestScriptsOfEveryByte(t *testing.T) {
	for i := range 256 {
		one := string([]byte{byte(i)})
		for _, line := range []string{"", "tick", "feel air,door", "keys b.", "link 0a", "many 12", "# a", "  tick  "} {
			for at := range len(line) + 1 {
				wantToldScript(t, line[:at]+one+line[at:])
				wantToldScript(t, "tick\n"+line[:at]+one+line[at:]+"\ntick\n")
				if at < len(line) {
					wantToldScript(t, line[:at]+one+line[at+1:])
				}
			}
		}
	}
}
