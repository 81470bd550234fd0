package tests

import (
	"bytes"
	"encoding/binary"
	"encoding/hex"
	"fmt"
	"math"
	"slices"
	"strings"
	"testing"

	"loop.example/g00200/impl"
)

// someNumbers are the numbers around which forms grow longer, and the ends of the range.
var someNumbers = []int{
	0, 1, 9, 10, 126, 127, 128, 129, 255, 256, 300, 16383, 16384, 16385,
	2097151, 2097152, 268435455, 268435456, 999999999, impl.MaxNumber - 1, impl.MaxNumber,
}

var noNumbers = []int{-1, -128, math.MinInt, impl.MaxNumber + 1, 1 << 32, 1<<32 + 5, math.MaxInt}

func allBytes() string {
	var out []byte
	for i := 0; i < 256; i++ {
		out = append(out, byte(i))
	}
	return string(out)
}

func TestVarTextWritesBytes(t *testing.T) {
	for _, c := range []struct {
		n    int
		want string
	}{
		{0, "\x00"}, {1, "\x01"}, {127, "\x7f"}, {128, "\x80\x01"}, {300, "\xac\x02"},
		{16383, "\xff\x7f"}, {16384, "\x80\x80\x01"}, {impl.MaxNumber, "\x80\x94\xeb\xdc\x03"},
	} {
		if got, ok := impl.VarText(c.n); !ok || got != c.want {
			t.Errorf("VarText(%d) = %q, %v, want %q", c.n, got, ok, c.want)
		}
	}
	for n := 0; n < 70000; n++ {
		if got, ok := impl.VarText(n); !ok || got != string(binary.AppendUvarint(nil, uint64(n))) {
			t.Fatalf("VarText(%d) = %q, %v", n, got, ok)
		}
	}
	for _, n := range noNumbers {
		if got, ok := impl.VarText(n); ok || got != "" {
			t.Errorf("VarText(%d) = %q, %v", n, got, ok)
		}
	}
}

func TestReadVarReadsBack(t *testing.T) {
	numbers := slices.Clone(someNumbers)
	for n := 0; n < impl.MaxNumber; n += 99991 {
		numbers = append(numbers, n)
	}
	for _, n := range numbers {
		form, _ := impl.VarText(n)
		for _, ahead := range []string{"", "\x00", "\xff", "abc\x80"} {
			for _, behind := range []string{"", "\x00", "\x80", "\xff\xff"} {
				got, to, ok := impl.ReadVar(ahead+form+behind, len(ahead))
				if !ok || got != n || to != len(ahead)+len(form) {
					t.Fatalf("ReadVar(%q, %d) = %d, %d, %v, want %d", ahead+form+behind, len(ahead), got, to, ok, n)
				}
			}
		}
	}
}

func TestReadVarRefuses(t *testing.T) {
	for _, c := range []struct {
		text string
		at   int
	}{
		{"\x80\x00", 0}, {"\xff\x00", 0}, {"\xac\x82\x00", 0}, {"\x80\x80\x00", 0}, {"\x05\x85\x00", 1},
		{"\x80\x94\xeb\xdc\x83\x00", 0},                 // MaxNumber in a longer form
		{"\x81\x94\xeb\xdc\x03", 0},                     // MaxNumber + 1
		{"\x80\x94\xeb\xdc\x04", 0},                     // more in the last byte
		{"\x80\x80\x80\x80\x80\x01", 0},                 // six bytes
		{"\x80\x80\x80\x80\x80\x80\x80\x80\x80\x02", 0}, // what would go round to 0
		{"\x85\x80\x80\x80\x80\x80\x80\x80\x80\x02", 0},
		{strings.Repeat("\x80", 30) + "\x01", 0}, {strings.Repeat("\xff", 30), 0},
		{"\x80", 0}, {"\xff\xff", 0}, {"\x80\x94\xeb\xdc", 0}, {"\x01\x80", 1},
		{"", 0}, {"\x01", 1}, {"\x01", 2}, {"\x01", -1}, {"\x01", math.MinInt}, {"\x01", math.MaxInt}, {"", -1}, {"", 1},
	} {
		if n, to, ok := impl.ReadVar(c.text, c.at); ok || n != 0 || to != 0 {
			t.Errorf("ReadVar(%q, %d) = %d, %d, %v", c.text, c.at, n, to, ok)
		}
	}
}

// textsOf calls visit with every text of up to most of the letters.
func textsOf(letters string, most int, visit func(text string)) {
	var grow func(text string)
	grow = func(text string) {
		visit(text)
		if len(text) == most {
			return
		}
		for i := 0; i < len(letters); i++ {
			grow(text + letters[i:i+1])
		}
	}
	grow("")
}

// wantVar is the answer of ReadVar, told by the forms alone.
func wantVar(text string, at int) (int, int, bool) {
	n, size := binary.Uvarint([]byte(text[at:]))
	if size <= 0 || n > impl.MaxNumber || len(binary.AppendUvarint(nil, n)) != size {
		return 0, 0, false
	}
	return int(n), at + size, true
}

func TestReadVarOfManyTexts(t *testing.T) {
	textsOf("\x00\x01\x03\x04\x7f\x80\xff", 6, func(text string) {
		for at := 0; at <= len(text); at++ {
			n, to, ok := impl.ReadVar(text, at)
			wantN, wantTo, want := wantVar(text, at)
			if n != wantN || to != wantTo || ok != want {
				t.Fatalf("ReadVar(%q, %d) = %d, %d, %v, want %d, %d, %v", text, at, n, to, ok, wantN, wantTo, want)
			}
		}
	})
}

func TestShortTextIsReadBack(t *testing.T) {
	for _, s := range []string{
		"", "a", "\x00", "\x80", allBytes(), "two words", strings.Repeat("x", 127), strings.Repeat("x", 128),
		strings.Repeat("\xff", 16383), strings.Repeat("y", 16384), strings.Repeat("z", impl.MaxText),
	} {
		form, ok := impl.ShortText(s)
		if !ok || form != string(binary.AppendUvarint(nil, uint64(len(s))))+s {
			t.Fatalf("ShortText of %d bytes: %d bytes, %v", len(s), len(form), ok)
		}
		for _, ahead := range []string{"", "\x00", "\xff\xff"} {
			for _, behind := range []string{"", "\x00", "more"} {
				got, to, ok := impl.ReadShort(ahead+form+behind, len(ahead))
				if !ok || got != s || to != len(ahead)+len(form) {
					t.Fatalf("ReadShort of %d bytes behind %q: %d bytes, %d, %v", len(s), ahead, len(got), to, ok)
				}
			}
		}
	}
}

func TestShortTextsOneBehindAnother(t *testing.T) {
	list := []string{"one", "", "three", allBytes(), "\x05"}
	all := ""
	for _, s := range list {
		form, _ := impl.ShortText(s)
		all += form
	}
	at := 0
	for _, want := range list {
		got, to, ok := impl.ReadShort(all, at)
		if !ok || got != want {
			t.Fatalf("ReadShort at %d = %q, %v, want %q", at, got, ok, want)
		}
		at = to
	}
	if at != len(all) {
		t.Errorf("ended at %d of %d", at, len(all))
	}
}

func TestShortTextRefuses(t *testing.T) {
	for _, more := range []int{1, 2, 10000} {
		if form, ok := impl.ShortText(strings.Repeat("x", impl.MaxText+more)); ok || form != "" {
			t.Errorf("ShortText of MaxText and %d: %d bytes, %v", more, len(form), ok)
		}
	}
	tooLong := string(binary.AppendUvarint(nil, impl.MaxText+1)) + strings.Repeat("x", impl.MaxText+1)
	greatest := string(binary.AppendUvarint(nil, impl.MaxNumber))
	for _, c := range []struct {
		text string
		at   int
	}{
		{"\x01", 0}, {"\x03ab", 0}, {"\x80\x01" + strings.Repeat("x", 127), 0}, {"ab\x02c", 2},
		{"\x83\x00abc", 0}, {"\x80\x00", 0}, {"\x80", 0}, {tooLong, 0}, {greatest + "abc", 0},
		{"", 0}, {"\x01a", 2}, {"\x01a", 3}, {"\x01a", -1}, {"\x01a", math.MinInt}, {"\x01a", math.MaxInt},
	} {
		if s, to, ok := impl.ReadShort(c.text, c.at); ok || s != "" || to != 0 {
			t.Errorf("ReadShort of %d bytes at %d = %d bytes, %d, %v", len(c.text), c.at, len(s), to, ok)
		}
	}
}

func TestHexIsReadBack(t *testing.T) {
	if got, ok := impl.Hex("\x00\x0f\xf0\xa5Az\xff"); !ok || got != "000ff0a5417aff" {
		t.Errorf("Hex = %q, %v", got, ok)
	}
	for _, s := range []string{"", "\x00", "a", allBytes(), strings.Repeat("\xc3", impl.MaxText-1), strings.Repeat("\x9b", impl.MaxText)} {
		form, ok := impl.Hex(s)
		if !ok || form != hex.EncodeToString([]byte(s)) {
			t.Fatalf("Hex of %d bytes: %d bytes, %v", len(s), len(form), ok)
		}
		if got, ok := impl.Unhex(form); !ok || got != s {
			t.Fatalf("Unhex of %d bytes: %d bytes, %v", len(form), len(got), ok)
		}
	}
}

func TestHexRefuses(t *testing.T) {
	for _, size := range []int{impl.MaxText + 1, impl.MaxText + 2, 2 * impl.MaxText} {
		long := strings.Repeat("x", size)
		if got, ok := impl.Hex(long); ok || got != "" {
			t.Errorf("Hex of %d bytes: %d bytes, %v", size, len(got), ok)
		}
		if got, ok := impl.Unhex(hex.EncodeToString([]byte(long))); ok || got != "" {
			t.Errorf("Unhex of the figures of %d bytes: %d bytes, %v", size, len(got), ok)
		}
	}
	for _, s := range []string{
		"0", "a", "000", "abc", "0A", "A0", "FF", "ABCDEF", "0g", "g0", "0x10", " 00", "00 ", "0 ", " 0", "-1", "0\x00", "\n0",
		"00g0", "000g", "0000A", "0/", "0:", "0@", "0`", "\xff0", "0\xe1",
		strings.Repeat("0", 2*impl.MaxText-1), strings.Repeat("0", 2*impl.MaxText+1), strings.Repeat("0", 2*impl.MaxText-1) + "g",
	} {
		if got, ok := impl.Unhex(s); ok || got != "" {
			t.Errorf("Unhex of %d bytes (%.20q) = %.20q, %v", len(s), s, got, ok)
		}
	}
}

func TestUnhexOfAllPairs(t *testing.T) {
	for i := 0; i < 256; i++ {
		for j := 0; j < 256; j++ {
			pair := string([]byte{byte(i), byte(j)})
			raw, err := hex.DecodeString(pair)
			want := err == nil && !bytes.ContainsAny([]byte(pair), "ABCDEF")
			if !want {
				raw = nil
			}
			if got, ok := impl.Unhex(pair); ok != want || got != string(raw) {
				t.Fatalf("Unhex(%q) = %q, %v, want %q, %v", pair, got, ok, raw, want)
			}
		}
	}
}

func TestDecimalWritesEveryInt(t *testing.T) {
	for _, c := range []struct {
		n    int
		want string
	}{
		{0, "0"}, {1, "1"}, {-1, "-1"}, {9, "9"}, {10, "10"}, {-10, "-10"}, {100, "100"}, {-5, "-5"},
		{impl.MaxNumber, "1000000000"}, {impl.MaxNumber + 1, "1000000001"}, {-impl.MaxNumber, "-1000000000"},
		{math.MaxInt, "9223372036854775807"}, {math.MinInt, "-9223372036854775808"}, {math.MinInt + 1, "-9223372036854775807"},
	} {
		if got := impl.Decimal(c.n); got != c.want {
			t.Errorf("Decimal(%d) = %q, want %q", c.n, got, c.want)
		}
	}
	for n := -2000; n <= 2000; n++ {
		if got := impl.Decimal(n); got != fmt.Sprint(n) {
			t.Fatalf("Decimal(%d) = %q", n, got)
		}
	}
}

func TestDecimalIsReadBack(t *testing.T) {
	numbers := slices.Clone(someNumbers)
	for n := 0; n < impl.MaxNumber; n += 99991 {
		numbers = append(numbers, n)
	}
	for n := 0; n < 12000; n++ {
		numbers = append(numbers, n)
	}
	for _, n := range numbers {
		if got, ok := impl.ReadDecimal(impl.Decimal(n)); !ok || got != n {
			t.Fatalf("ReadDecimal(%q) = %d, %v", impl.Decimal(n), got, ok)
		}
	}
}

func TestReadDecimalRefuses(t *testing.T) {
	for _, n := range noNumbers {
		if got, ok := impl.ReadDecimal(impl.Decimal(n)); ok || got != 0 {
			t.Errorf("ReadDecimal(%q) = %d, %v", impl.Decimal(n), got, ok)
		}
	}
	for _, s := range []string{
		"", "00", "01", "007", "0000000000", "01000000000", "-", "-0", "-1", "+1", "+0", "+", " ", " 1", "1 ", "1 2", "1\n", "\x001",
		"0x1", "1a", "a1", "a", "1.0", "1e3", "1_000", "1,000", "/", ":", "1/", "1:", "\xb1", "\u0661", "1-", "1\x00",
		"1000000001", "1000000009", "1000000010", "9999999999", "10000000000", "18446744073709551616", "18446744073709551621",
		strings.Repeat("9", 400), strings.Repeat("0", 400), "1" + strings.Repeat("0", 64), "1000000001x", "10000000000x",
	} {
		if got, ok := impl.ReadDecimal(s); ok || got != 0 {
			t.Errorf("ReadDecimal(%.40q) = %d, %v", s, got, ok)
		}
	}
}

func TestReadDecimalOfManyTexts(t *testing.T) {
	textsOf("0179 -+a", 5, func(text string) {
		want, fine := 0, false
		if _, err := fmt.Sscanf(text, "%d", &want); err == nil && want >= 0 && fmt.Sprint(want) == text {
			fine = true
		} else {
			want = 0
		}
		if got, ok := impl.ReadDecimal(text); ok != fine || got != want {
			t.Fatalf("ReadDecimal(%q) = %d, %v, want %d, %v", text, got, ok, want, fine)
		}
	})
}

func TestPartsOfLines(t *testing.T) {
	for _, c := range []struct {
		line string
		want []string
	}{
		{"", nil}, {" ", nil}, {"     ", nil}, {strings.Repeat(" ", impl.MaxWords), nil},
		{"tick", []string{"tick"}}, {"a", []string{"a"}}, {"a b", []string{"a", "b"}}, {"ab  cd", []string{"ab", "cd"}},
		{" tick  1 2 ", []string{"tick", "1", "2"}}, {"   a", []string{"a"}}, {"a   ", []string{"a"}},
		{"a a  a", []string{"a", "a", "a"}}, {"!~ #x , ~", []string{"!~", "#x", ",", "~"}},
		{"~", []string{"~"}}, {"a~b", []string{"a~b"}},
		{strings.Repeat("x", impl.MaxWords), []string{strings.Repeat("x", impl.MaxWords)}},
		{strings.Repeat(" ", impl.MaxWords-1) + "x", []string{"x"}},
		{"0 1 2 3 4 5 6 7 8 9", strings.Split("0123456789", "")},
		{"  0 1  2 3 4 5 6 7 8 9   ", strings.Split("0123456789", "")},
	} {
		if got, ok := impl.PartsOf(c.line); !ok || !slices.Equal(got, c.want) {
			t.Errorf("PartsOf(%.40q) = %q, %v, want %q", c.line, got, ok, c.want)
		}
	}
}

func TestPartsOfRefuses(t *testing.T) {
	for _, line := range []string{
		strings.Repeat("x", impl.MaxWords+1), strings.Repeat(" ", impl.MaxWords+1), "x" + strings.Repeat(" ", impl.MaxWords),
		"0 1 2 3 4 5 6 7 8 9 a", " 0 1 2 3 4 5 6 7 8 9 a ", strings.Repeat("x ", 30),
		"\x1f", "\x7f", "a\x1fb", "a\x7fb", "a \x7f", "\x1f a", "a\tb", "a\nb", "a\n", "\x00", "\x80", "\xff", "a\u00a0b", "  \x1f",
	} {
		if got, ok := impl.PartsOf(line); ok || len(got) != 0 {
			t.Errorf("PartsOf(%.40q) = %q, %v", line, got, ok)
		}
	}
}

func TestPartsOfEveryByte(t *testing.T) {
	for i := 0; i < 256; i++ {
		one := string([]byte{byte(i)})
		want := []string{"a", one, "b"}
		if i == 32 {
			want = []string{"a", "b"}
		}
		fine := i >= 32 && i <= 126
		if !fine {
			want = nil
		}
		if got, ok := impl.PartsOf("a " + one + " b"); ok != fine || !slices.Equal(got, want) {
			t.Errorf("PartsOf with byte %d = %q, %v", i, got, ok)
		}
	}
}

func TestPartsOfManyLines(t *testing.T) {
	textsOf(" ab", 8, func(line string) {
		if got, ok := impl.PartsOf(line); !ok || !slices.Equal(got, strings.Fields(line)) {
			t.Fatalf("PartsOf(%q) = %q, %v", line, got, ok)
		}
	})
}
