package tests

import (
	"fmt"
	"math"
	"regexp"
	"slices"
	"strconv"
	"strings"
	"testing"

	"loop.example/g00200/impl"
)

// opRow is what the document tells of an Op; its place in ops is the Op.
type opRow struct {
	op   int
	name string
	cost int
}

func ops() []opRow {
	return []opRow{
		{impl.OpEnd, "end", 1}, {impl.OpPush, "push", 1}, {impl.OpLoad, "load", 2}, {impl.OpStore, "store", 2},
		{impl.OpAdd, "add", 1}, {impl.OpSub, "sub", 1}, {impl.OpMul, "mul", 3}, {impl.OpDiv, "div", 3}, {impl.OpLess, "less", 1},
		{impl.OpJump, "jump", 1}, {impl.OpZero, "zero", 1}, {impl.OpDup, "dup", 1}, {impl.OpDrop, "drop", 1},
		{impl.OpSend, "send", 4}, {impl.OpTake, "take", 4}, {impl.OpIn, "in", 2}, {impl.OpOut, "out", 2}, {impl.OpTime, "time", 1},
	}
}

var noOps = []int{-1, -2, -17, -18, 18, 19, 20, 31, 32, 33, 64, 100, 127, 128, 254, 255, 256, 257, 256 + impl.OpMul, 1 << 32, 1<<32 + impl.OpMul, math.MaxInt - 1, math.MaxInt, math.MinInt, math.MinInt + 1, math.MinInt + impl.OpMul}

var noBytes = []int{-1, -2, -128, -255, -256, 256, 257, 511, 512, 1 << 16, 1 << 32, 1<<32 + 5, math.MaxInt, math.MaxInt - 1, math.MinInt, math.MinInt + 1}

// fencedCode answers a list with room ahead of it and behind it, and the memory that it lies in.
func fencedCode(list []impl.Instr, spare int) ([]impl.Instr, []impl.Instr) {
	memory := make([]impl.Instr, 2+len(list)+spare)
	for i := range memory {
		memory[i] = impl.Instr{Op: fence, Arg: fence}
	}
	copy(memory[2:], list)
	return memory[2 : 2+len(list)], memory
}

// someCode answers so many instructions that are right; all of them have a name, and jumps go anywhere.
func someCode(size int) []impl.Instr {
	var out []impl.Instr
	for i := range size {
		out = append(out, impl.Instr{Op: i * 7 % 18, Arg: (i*89 + size) % 256})
	}
	return out
}

func someCodes() [][]impl.Instr {
	out := [][]impl.Instr{nil, {}, make([]impl.Instr, 60), make([]impl.Instr, 1, 90)}
	for size := 1; size <= 60; size++ {
		out = append(out, someCode(size))
	}
	for op := range 18 {
		for _, arg := range []int{0, 1, 9, 10, 99, 100, 128, 255} {
			out = append(out, []impl.Instr{{Op: op, Arg: arg}})
		}
	}
	return out
}

// nameless are right, but have an Op without a name.
func nameless() [][]impl.Instr {
	var out [][]impl.Instr
	for op := 18; op < 256; op++ {
		out = append(out, []impl.Instr{{Op: op, Arg: 255 - op}})
	}
	for _, at := range []int{0, 1, 30, 58, 59} {
		for _, op := range []int{18, 19, 127, 128, 255} {
			list := someCode(60)
			list[at].Op = op
			out = append(out, list)
		}
	}
	return out
}

// wrongCodes are those that are not right.
func wrongCodes() [][]impl.Instr {
	out := [][]impl.Instr{make([]impl.Instr, 61), someCode(61), someCode(62), someCode(120), make([]impl.Instr, 5000)}
	for _, size := range []int{1, 2, 59, 60} {
		for _, at := range []int{0, size / 2, size - 1} {
			for _, n := range noBytes {
				wrongOp, wrongArg := someCode(size), someCode(size)
				wrongOp[at].Op = n
				wrongArg[at].Arg = n
				out = append(out, wrongOp, wrongArg)
			}
		}
	}
	return out
}

func TestOpsAreNumberedInOrder(t *testing.T) {
	if len(ops()) != 18 || impl.OpTime != 17 || impl.MaxCode != 60 {
		t.Errorf("%d ops, OpTime %d, MaxCode %d", len(ops()), impl.OpTime, impl.MaxCode)
	}
	for n, row := range ops() {
		if row.op != n {
			t.Errorf("the Op of %s is %d, want %d", row.name, row.op, n)
		}
	}
}

func TestCodeOk(t *testing.T) {
	for _, list := range append(someCodes(), nameless()...) {
		if !impl.CodeOk(list) {
			t.Errorf("CodeOk(%v) is false", list)
		}
	}
	for _, list := range wrongCodes() {
		if impl.CodeOk(list) {
			t.Errorf("CodeOk of %d (%.60v)", len(list), list)
		}
	}
}

func TestCodeOkAtEdges(t *testing.T) {
	const most, least = math.MaxInt, math.MinInt
	for _, n := range []int{-1, 0, 255, 256, most, least} {
		want := n == 0 || n == 255
		for _, size := range []int{1, 2, 60} {
			for _, at := range []int{0, size - 1} {
				list := make([]impl.Instr, size)
				list[at].Op = n
				if got := impl.CodeOk(list); got != want {
					t.Errorf("CodeOk with Op %d at %d of %d = %v", n, at, size, got)
				}
				list[at] = impl.Instr{Arg: n}
				if got := impl.CodeOk(list); got != want {
					t.Errorf("CodeOk with Arg %d at %d of %d = %v", n, at, size, got)
				}
			}
		}
	}
}

// Where a jump goes is looked at by other chapters: code with a jump beyond its end is right, and comes back.
func TestJumpsBeyondTheEndAreRight(t *testing.T) {
	for _, op := range []int{impl.OpJump, impl.OpZero} {
		for _, size := range []int{1, 2, 59, 60} {
			for _, arg := range []int{0, size - 1, size, size + 1, 59, 60, 61, 128, 254, 255} {
				for _, at := range []int{0, size - 1} {
					list := make([]impl.Instr, size)
					list[at] = impl.Instr{Op: op, Arg: arg}
					wantFromBytes(t, list)
					wantFromListing(t, list)
				}
			}
		}
	}
}

func wantFromBytes(t *testing.T, list []impl.Instr) {
	t.Helper()
	var want []byte
	for _, one := range list {
		want = append(want, byte(one.Op), byte(one.Arg))
	}
	s, ok := impl.CodeText(list)
	if !ok || s != string(want) || !impl.CodeOk(list) {
		t.Fatalf("CodeText(%v) = %q, %v", list, s, ok)
	}
	got, ok := impl.ReadCode(s)
	if !ok || !slices.Equal(got, list) {
		t.Fatalf("ReadCode(%q) = %v, %v, want %v", s, got, ok, list)
	}
}

func wantFromListing(t *testing.T, list []impl.Instr) {
	t.Helper()
	want := ""
	for _, one := range list {
		want += fmt.Sprintf("%s %d\n", ops()[one.Op].name, one.Arg)
	}
	text, ok := impl.Listing(list)
	if !ok || text != want {
		t.Fatalf("Listing(%v) = %q, %v, want %q", list, text, ok, want)
	}
	// The last line may go without its byte 10.
	for _, text := range []string{text, strings.TrimSuffix(text, "\n")} {
		got, fault := impl.Assemble(text)
		if fault != 0 || !slices.Equal(got, list) {
			t.Fatalf("Assemble(%q) = %v, %d, want %v", text, got, fault, list)
		}
	}
}

func TestCodeComesBackFromItsBytes(t *testing.T) {
	for _, list := range append(someCodes(), nameless()...) {
		wantFromBytes(t, list)
	}
	for op := range 256 {
		for arg := range 256 {
			one := impl.Instr{Op: op, Arg: arg}
			wantFromBytes(t, []impl.Instr{one})
			wantFromBytes(t, []impl.Instr{{Op: 255 - arg, Arg: op}, one})
		}
	}
}

func TestCodeTextRefuses(t *testing.T) {
	for _, list := range wrongCodes() {
		if s, ok := impl.CodeText(list); ok || s != "" {
			t.Errorf("CodeText of %d (%.60v) = %q, %v", len(list), list, s, ok)
		}
	}
}

func TestReadCodeOfEveryLength(t *testing.T) {
	for _, letter := range []string{"\x00", "\x01", "\xff", "a"} {
		for size := range 400 {
			s := strings.Repeat(letter, size)
			var want []impl.Instr
			fine := size%2 == 0 && size <= 120
			if fine {
				want = slices.Repeat([]impl.Instr{{Op: int(letter[0]), Arg: int(letter[0])}}, size/2)
			}
			got, ok := impl.ReadCode(s)
			if ok != fine || !slices.Equal(got, want) {
				t.Fatalf("ReadCode of %d bytes = %v, %v", size, got, ok)
			}
			if back, right := impl.CodeText(got); ok && (!right || back != s) {
				t.Fatalf("CodeText of what %d bytes tell = %q, %v", size, back, right)
			}
		}
	}
	for _, size := range []int{impl.MaxText, impl.MaxText + 2, 1 << 20} {
		if got, ok := impl.ReadCode(strings.Repeat("x", size)); ok || len(got) != 0 {
			t.Errorf("ReadCode of %d bytes = %d, %v", size, len(got), ok)
		}
	}
}

func TestReadCodeOfBytesInOrder(t *testing.T) {
	got, ok := impl.ReadCode("\x01\x07\x04\x00\x11\xff\xff\x12")
	if want := []impl.Instr{{Op: 1, Arg: 7}, {Op: 4}, {Op: 17, Arg: 255}, {Op: 255, Arg: 18}}; !ok || !slices.Equal(got, want) {
		t.Errorf("ReadCode = %v, %v, want %v", got, ok, want)
	}
	all := allBytes()
	for from := 0; from+120 <= len(all); from++ {
		s := all[from : from+120]
		got, ok := impl.ReadCode(s)
		if !ok || len(got) != 60 {
			t.Fatalf("ReadCode(%q) = %v, %v", s, got, ok)
		}
		for i, one := range got {
			if want := (impl.Instr{Op: from + 2*i, Arg: from + 2*i + 1}); one != want {
				t.Fatalf("ReadCode(%q) has %v at %d, want %v", s, one, i, want)
			}
		}
	}
}

func TestCostAndName(t *testing.T) {
	for op, row := range ops() {
		if cost, name := impl.CostOf(op), impl.NameOf(op); cost != row.cost || name != row.name {
			t.Errorf("%d costs %d and is named %q, want %d and %q", op, cost, name, row.cost, row.name)
		}
	}
	for _, op := range noOps {
		if cost, name := impl.CostOf(op), impl.NameOf(op); cost != 1 || name != "" {
			t.Errorf("%d costs %d and is named %q", op, cost, name)
		}
	}
	for op := 18; op < 3000; op++ {
		if impl.CostOf(op) != 1 || impl.NameOf(op) != "" || impl.CostOf(-op) != 1 || impl.NameOf(-op) != "" {
			t.Fatalf("%d or -%d is told of", op, op)
		}
	}
}

type assembled struct {
	text  string
	want  []impl.Instr
	fault int
}

func wantAssembled(t *testing.T, c assembled) {
	t.Helper()
	if got, fault := impl.Assemble(c.text); fault != c.fault || !slices.Equal(got, c.want) {
		t.Errorf("Assemble of %d bytes (%.80q) = %v, %d, want %v, %d", len(c.text), c.text, got, fault, c.want, c.fault)
	}
}

func TestAssembleOfRightTexts(t *testing.T) {
	one := []impl.Instr{{Op: impl.OpPush, Arg: 7}}
	two := []impl.Instr{{Op: impl.OpPush, Arg: 7}, {Op: impl.OpAdd}}
	full := strings.Repeat(" ", impl.MaxWords)
	for _, c := range []assembled{
		{"", nil, 0}, {"\n", nil, 0}, {"\n\n\n", nil, 0}, {" ", nil, 0}, {"   \n", nil, 0}, {" \n  \n ", nil, 0}, {full, nil, 0}, {full + "\n" + full, nil, 0},
		{"push 7", one, 0}, {"push 7\n", one, 0}, {"\npush 7", one, 0}, {"push 7\n\n", one, 0}, {"push 7\n   ", one, 0}, {"  \n\n \npush 7\n \n", one, 0},
		{" push 7", one, 0}, {"push 7 ", one, 0}, {"push    7", one, 0}, {"   push   7   \n", one, 0},
		{"push" + strings.Repeat(" ", impl.MaxWords-5) + "7", one, 0}, {strings.Repeat(" ", impl.MaxWords-6) + "push 7\n", one, 0},
		{"push 7\nadd", two, 0}, {"push 7\nadd\n", two, 0}, {"push 7\n\nadd\n", two, 0}, {"push 7\n  \n\n \nadd", two, 0}, {"push 7\nadd 0", two, 0},
		{full + "\npush 7\n" + full + "\nadd\n" + full, two, 0},
		{"push\npush 0\npush 255\n", []impl.Instr{{Op: 1}, {Op: 1}, {Op: 1, Arg: 255}}, 0},
		{"jump 255\nzero 60\nend", []impl.Instr{{Op: 9, Arg: 255}, {Op: 10, Arg: 60}, {}}, 0},
		{"end\nend 1\nadd 1", []impl.Instr{{}, {Arg: 1}, {Op: 4, Arg: 1}}, 0},
		{strings.Repeat("\n", 100000) + "push 7", one, 0},
	} {
		wantAssembled(t, c)
	}
	for op, row := range ops() {
		wantAssembled(t, assembled{row.name, []impl.Instr{{Op: op}}, 0})
		wantAssembled(t, assembled{row.name + "\n", []impl.Instr{{Op: op}}, 0})
		for arg := range 256 {
			wantAssembled(t, assembled{row.name + " " + strconv.Itoa(arg), []impl.Instr{{Op: op, Arg: arg}}, 0})
		}
	}
}

// faultyLines are lines of which none tells an instruction, and none is passed over.
func faultyLines() []string {
	out := []string{
		"push 256", "push 257", "push 300", "push 999", "push 1000000000", "push 1000000001", "push 4294967296", "push 18446744073709551616", "push 18446744073709551623", "push " + strings.Repeat("9", 500),
		"push 00", "push 07", "push 0255", "push -1", "push -0", "push +7", "push +", "push -", "push x", "push 7x", "push x7", "push 0x7", "push 7.0", "push 7,", "push '7'", "push push", "push #",
		"push 7 7", "push 7 0", "push 7 add", "push push 7", "end end", "push 7 #", "push 1 2 3 4 5 6 7 8 9", "push 1 2 3 4 5 6 7 8 9 10", "a b c d e f g h i j k",
		"7", "0", "7 push", "0 7", "1 7", "255", "#", "# push 7", "#push", "none", "nothing 1", "halt", "op", "-", ";", "push,7", "push=7", "push:7", "push7", "\"push\" 7",
		"PUSH 7", "Push 7", "pusH 7", "End", "TIME", "pus 7", "ush 7", "pushh 7", "push_ 7", "xpush 7", "pushpush 7", "tim", "times", "i", "inn", "ou", "outs", "en", "ends", "endpush",
		"push\t7", "\tpush 7", "push 7\t", "\t", "\r", "push 7\r", "\x00", "push 7\x00", "push\x007", "\x1f", "\x7f", "push \x7f", "\x80", "push 7\xff", "push\xa07", "push\u00a07", "push \u0667", "pu\u0161h", "\ufeffpush 7", "end\x0b", "\x0c",
		strings.Repeat(" ", impl.MaxWords+1), strings.Repeat(" ", impl.MaxWords-5) + "push 7", "push" + strings.Repeat(" ", impl.MaxWords-4) + "7", "push 7" + strings.Repeat(" ", impl.MaxWords), strings.Repeat("x", impl.MaxWords), strings.Repeat("x", impl.MaxWords+1), strings.Repeat(" ", 100000),
	}
	for _, row := range ops() {
		for _, behind := range []string{" 256", " -1", " 01", " a", " 1 2", "x", "\t", "\r", " 0 0", "0"} {
			out = append(out, row.name+behind)
		}
		out = append(out, "x"+row.name, strings.ToUpper(row.name), strings.ToUpper(row.name[:1])+row.name[1:])
	}
	return out
}

func TestAssembleTellsTheLineOfAFault(t *testing.T) {
	for _, line := range faultyLines() {
		for _, c := range []assembled{
			{line, nil, 1}, {line + "\n", nil, 1}, {"\n" + line, nil, 2}, {"  \n\n" + line + "\n", nil, 3}, {"push 7\n" + line, nil, 2}, {"push 7\nadd\n\n" + line + "\nend\n", nil, 4},
			{line + "\n" + line, nil, 1}, {line + "\npush 300\n", nil, 1}, {"push 7\n\n" + line + "\npush 300\n", nil, 3}, {"\nfrom 1 on\n" + line + "\n", nil, 2}, {"end\nend\n\npush 300\nadd\n" + line, nil, 4},
		} {
			wantAssembled(t, c)
		}
	}
	wantAssembled(t, assembled{strings.Repeat("\n", 70000) + "x", nil, 70001})
	wantAssembled(t, assembled{"\n" + strings.Repeat("x\n", 70000), nil, 2})
}

// Each beginning of a name that is none itself is a fault, and so is a name with any letter more.
func TestAssembleOfNamesCutAndGrown(t *testing.T) {
	names := map[string]bool{}
	for _, row := range ops() {
		names[row.name] = true
	}
	for _, row := range ops() {
		for size := 1; size < len(row.name); size++ {
			for _, piece := range []string{row.name[:size], row.name[size:]} {
				if !names[piece] {
					wantAssembled(t, assembled{"end\n" + piece + " 1", nil, 2})
				}
			}
		}
		for c := 33; c <= 126; c++ {
			for _, grown := range []string{row.name + string(rune(c)), string(rune(c)) + row.name} {
				if !names[grown] {
					wantAssembled(t, assembled{grown, nil, 1})
				}
			}
		}
	}
}

func TestAssembleOfEveryByte(t *testing.T) {
	for i := range 256 {
		one := string([]byte{byte(i)})
		for _, c := range []string{one, "add" + one, one + "add", "push" + one + "7", "push 7" + one, "push " + one, "push 7 " + one, "\n" + one, "add" + one + "sub", "add" + one + one + "sub 3" + one} {
			got, fault := impl.Assemble(c)
			want, wantFault := tellAssembled(c)
			if fault != wantFault || !slices.Equal(got, want) {
				t.Errorf("Assemble(%q) = %v, %d, want %v, %d", c, got, fault, want, wantFault)
			}
		}
	}
}

func TestAssembleUpToMaxCode(t *testing.T) {
	for _, between := range []string{"", "\n", " \n", "\n   \n\n"} {
		for _, size := range []int{58, 59, 60, 61, 62, 120, 1000} {
			list := someCode(min(size, 60))
			text := ""
			for i := range size {
				text += fmt.Sprintf("%s %d\n%s", ops()[i*7%18].name, (i*89+min(size, 60))%256, between)
			}
			c := assembled{text, list, 0}
			if size > 60 {
				c = assembled{text, nil, 60*(1+strings.Count(between, "\n")) + 1}
			}
			wantAssembled(t, c)
			c.text = strings.TrimRight(text, " \n")
			wantAssembled(t, c)
		}
	}
}

func TestAssembleBehindMaxCode(t *testing.T) {
	full := strings.Repeat("end\n", 60)
	code := make([]impl.Instr, 60)
	for _, c := range []assembled{
		{full, code, 0}, {full[:len(full)-1], code, 0}, {full + "\n", code, 0}, {full + "\n \n  ", code, 0}, {"\n" + full + "  ", code, 0},
		{full + "end", nil, 61}, {full + "end\n", nil, 61}, {full + "push 300", nil, 61}, {full + "x\nend", nil, 61}, {full + "\n\nend", nil, 63}, {full + "\n  \n\nend 1\nx", nil, 64}, {full + "\n\tend", nil, 62},
		{full + strings.Repeat(" ", impl.MaxWords), code, 0}, {full + strings.Repeat(" ", impl.MaxWords+1), nil, 61}, {full + "\n\x00", nil, 62},
		{"\n\n" + full + "end", nil, 63}, {"x\n" + full + "end", nil, 1}, {strings.Repeat("end\n", 59) + "x\nend\nend", nil, 60}, {strings.Repeat("end\n", 59) + "\nend\nend\n", nil, 62},
		{strings.Repeat("end\n", 30) + "push 256\n" + full, nil, 31},
	} {
		wantAssembled(t, c)
	}
}

var (
	blankLine = regexp.MustCompile(`^ *$`)
	instrLine = regexp.MustCompile(`^ *(end|push|load|store|add|sub|mul|div|less|jump|zero|dup|drop|send|take|in|out|time)(?: +(0|[1-9][0-9]{0,2}))? *$`)
)

// tellAssembled tells lines by their form alone.
func tellAssembled(text string) ([]impl.Instr, int) {
	var code []impl.Instr
	for i, line := range strings.Split(text, "\n") {
		short := len(line) <= 600
		if short && blankLine.MatchString(line) {
			continue
		}
		parts := instrLine.FindStringSubmatch(line)
		if !short || parts == nil || len(code) == 60 {
			return nil, i + 1
		}
		op := slices.IndexFunc(ops(), func(row opRow) bool { return row.name == parts[1] })
		arg, _ := strconv.Atoi("0" + parts[2])
		if arg > 255 {
			return nil, i + 1
		}
		code = append(code, impl.Instr{Op: op, Arg: arg})
	}
	return code, 0
}

func TestAssembleOfManyTexts(t *testing.T) {
	words := []string{"in", "push", "out", " ", "\n", "0", "2", "55", "x", "\t"}
	letters := "0123456789"
	textsOf(letters, 5, func(picks string) {
		text := ""
		for i := range len(picks) {
			text += words[picks[i]-'0']
		}
		got, fault := impl.Assemble(text)
		want, wantFault := tellAssembled(text)
		if fault != wantFault || !slices.Equal(got, want) {
			t.Fatalf("Assemble(%q) = %v, %d, want %v, %d", text, got, fault, want, wantFault)
		}
	})
}

// Lines that are put together by a fixed rule, right ones mostly, so that a fault may stand at any place.
func TestAssembleOfDrawnTexts(t *testing.T) {
	lines := []string{"", " ", "push 0", " add", "jump  255 ", "end", "", "time 9", "store 10", "in", "out 1", "zero 60", "\t", "push 256", "ad", "less 1 2"}
	drawn := uint32(1)
	for range 4000 {
		text := ""
		drawn = drawn*1664525 + 1013904223
		most := 12 + int(drawn>>28)/4
		for range (drawn >> 8) % 90 {
			drawn = drawn*1664525 + 1013904223
			text += lines[int(drawn>>16)%most] + "\n"
		}
		got, fault := impl.Assemble(text)
		want, wantFault := tellAssembled(text)
		if fault != wantFault || !slices.Equal(got, want) {
			t.Fatalf("Assemble(%q) = %v, %d, want %v, %d", text, got, fault, want, wantFault)
		}
		if fault == 0 {
			wantFromListing(t, got)
			wantFromBytes(t, got)
		}
	}
}

func TestListingOfSomeCode(t *testing.T) {
	for _, c := range []struct {
		list []impl.Instr
		want string
	}{
		{nil, ""}, {[]impl.Instr{}, ""}, {[]impl.Instr{{}}, "end 0\n"}, {[]impl.Instr{{Op: 1, Arg: 7}, {Op: 4}}, "push 7\nadd 0\n"},
		{[]impl.Instr{{Op: 9, Arg: 9}, {Op: 9, Arg: 10}, {Op: 9, Arg: 99}, {Op: 9, Arg: 100}, {Op: 9, Arg: 255}}, "jump 9\njump 10\njump 99\njump 100\njump 255\n"},
	} {
		if got, ok := impl.Listing(c.list); !ok || got != c.want {
			t.Errorf("Listing(%v) = %q, %v, want %q", c.list, got, ok, c.want)
		}
	}
}

func TestCodeComesBackFromItsListing(t *testing.T) {
	for _, list := range someCodes() {
		wantFromListing(t, list)
	}
	for op := range 18 {
		for arg := range 256 {
			wantFromListing(t, []impl.Instr{{Op: op, Arg: arg}})
		}
	}
}

func TestListingRefuses(t *testing.T) {
	for _, list := range append(nameless(), wrongCodes()...) {
		if text, ok := impl.Listing(list); ok || text != "" {
			t.Errorf("Listing of %d (%.60v) = %q, %v", len(list), list, text, ok)
		}
	}
}

func TestCodeThatIsGivenStays(t *testing.T) {
	for _, list := range slices.Concat(someCodes(), nameless(), wrongCodes()) {
		given, memory := fencedCode(list, 5)
		before := slices.Clone(memory)
		impl.CodeOk(given)
		impl.CodeText(given)
		impl.Listing(given)
		if !slices.Equal(memory, before) {
			t.Fatalf("%v was changed into %v", before, memory)
		}
	}
}

// spoil writes into a list and into the room behind it.
func spoil(list []impl.Instr) {
	list = list[:cap(list)]
	for i := range list {
		list[i] = impl.Instr{Op: fence, Arg: fence}
	}
}

// Whatever is written into an answer, and into the room behind it, another call's answer is not changed by it.
func TestCodeAnswersAreTheirOwn(t *testing.T) {
	text, _ := impl.Listing(someCode(60))
	s, _ := impl.CodeText(someCode(60))
	want := someCode(60)
	for range 50 {
		one, _ := impl.ReadCode(s)
		two, _ := impl.Assemble(text)
		three, _ := impl.ReadCode(s)
		four, _ := impl.Assemble(text)
		spoil(one)
		spoil(two)
		if !slices.Equal(three, want) || !slices.Equal(four, want) {
			t.Fatalf("answers share memory: %v and %v", three, four)
		}
		if again, ok := impl.CodeText(three); !ok || again != s {
			t.Fatalf("CodeText = %q, %v", again, ok)
		}
		if again, ok := impl.Listing(four); !ok || again != text {
			t.Fatalf("Listing = %q, %v", again, ok)
		}
	}
}

// What was asked ahead, right or wrong, leaves nothing behind.
func TestCodeIsAnsweredAlike(t *testing.T) {
	texts := append(faultyLines(), "", "push 7\nadd", strings.Repeat("end\n", 60), strings.Repeat("end\n", 61))
	type answer struct {
		code  []impl.Instr
		fault int
	}
	first := map[string]answer{}
	for _, text := range texts {
		code, fault := impl.Assemble(text)
		first[text] = answer{slices.Clone(code), fault}
	}
	for range 20 {
		slices.Reverse(texts)
		for _, text := range texts {
			code, fault := impl.Assemble(text)
			if want := first[text]; fault != want.fault || !slices.Equal(code, want.code) {
				t.Fatalf("Assemble(%.80q) = %v, %d, ahead of it %v, %d", text, code, fault, want.code, want.fault)
			}
		}
	}
}
