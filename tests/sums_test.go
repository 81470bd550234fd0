package tests

import (
	"encoding/binary"
	"math"
	"strings"
	"testing"

	"loop.example/g00200/impl"
)

var someSums = []uint32{0, 1, 2, 3, 15, 16, 127, 128, 255, 256, 65535, 3558460437, 3558460436, 1 << 31, 1<<31 - 1, math.MaxUint32 - 1, math.MaxUint32}

// bitByBit is the rule of the document as it stands there: no table, no shift.
func bitByBit(sum uint32, text string) uint32 {
	for i := 0; i < len(text); i++ {
		sum ^= uint32(text[i])
		for step := 0; step < 8; step++ {
			odd := sum%2 == 1
			sum /= 2
			if odd {
				sum ^= 3558460437
			}
		}
	}
	return sum
}

// mixedText has bytes of all kinds without a short period.
func mixedText(size int) string {
	out := make([]byte, size)
	n := uint32(12345)
	for i := range out {
		n = n*1664525 + 1013904223
		out[i] = byte(n >> 24)
	}
	return string(out)
}

func withSum(text string) string {
	return string(binary.BigEndian.AppendUint32([]byte(text), bitByBit(math.MaxUint32, text)))
}

func TestSumsThatAreKnown(t *testing.T) {
	for _, c := range []struct {
		sum  uint32
		text string
		want uint32
	}{
		{0, "", 0}, {0, "\x00", 0}, {0, "\x00\x00\x00", 0}, {math.MaxUint32, "", math.MaxUint32}, {7, "", 7},
		{0, "\x80", 0xd419cc15}, {0, "\x40", 0xbe152a1f}, {0x80, "\x00", 0xd419cc15}, {0x80, "\x80", 0},
		{256, "\x00", 1}, {1 << 31, "\x00", 1 << 23},
	} {
		if got := impl.SumMore(c.sum, c.text); got != c.want {
			t.Errorf("SumMore(%d, %q) = %d, want %d", c.sum, c.text, got, c.want)
		}
	}
	if got := impl.SumOf(""); got != 4294967295 {
		t.Errorf("SumOf of nothing = %d", got)
	}
}

func TestSumOfEveryByte(t *testing.T) {
	for i := 0; i < 256; i++ {
		one := string([]byte{byte(i)})
		for _, sum := range someSums {
			if got, want := impl.SumMore(sum, one), bitByBit(sum, one); got != want {
				t.Fatalf("SumMore(%d, %q) = %d, want %d", sum, one, got, want)
			}
		}
		if got, want := impl.SumOf(one), bitByBit(math.MaxUint32, one); got != want {
			t.Fatalf("SumOf(%q) = %d, want %d", one, got, want)
		}
	}
}

func TestSumOfEveryBitOfTheSum(t *testing.T) {
	for bit := 0; bit < 32; bit++ {
		for _, sum := range []uint32{1 << bit, ^(uint32(1) << bit)} {
			for _, text := range []string{"", "\x00", "\xff", "abc", mixedText(9)} {
				if got, want := impl.SumMore(sum, text), bitByBit(sum, text); got != want {
					t.Fatalf("SumMore(%d, %q) = %d, want %d", sum, text, got, want)
				}
			}
		}
	}
}

func TestSumOfLongTexts(t *testing.T) {
	for _, text := range []string{
		allBytes(), "abc", "cba", "a\x00", "\x00a", strings.Repeat("\x00", 1000), strings.Repeat("\xff", 1000), mixedText(5000),
		mixedText(impl.MaxText), mixedText(impl.MaxText + 1), mixedText(3 * impl.MaxText), "\u00e9\u4e16\xff\xc3",
	} {
		for _, sum := range someSums {
			if got, want := impl.SumMore(sum, text), bitByBit(sum, text); got != want {
				t.Fatalf("SumMore(%d, %d bytes) = %d, want %d", sum, len(text), got, want)
			}
		}
		if got, want := impl.SumOf(text), bitByBit(math.MaxUint32, text); got != want {
			t.Fatalf("SumOf of %d bytes = %d, want %d", len(text), got, want)
		}
	}
}

func TestSumMoreGoesOn(t *testing.T) {
	for _, text := range []string{"", "a", "abc", "\x00\x00\x00", allBytes(), mixedText(700)} {
		for cut := 0; cut <= len(text); cut++ {
			if got, want := impl.SumMore(impl.SumOf(text[:cut]), text[cut:]), impl.SumOf(text); got != want {
				t.Fatalf("%d bytes cut at %d: %d, want %d", len(text), cut, got, want)
			}
			for _, sum := range someSums {
				if got, want := impl.SumMore(impl.SumMore(sum, text[:cut]), text[cut:]), impl.SumMore(sum, text); got != want {
					t.Fatalf("%d bytes cut at %d from %d on: %d, want %d", len(text), cut, sum, got, want)
				}
			}
		}
	}
}

func textsToSeal() []string {
	return []string{
		"", "a", "\x00", "\xff", "abc", "\x00\x00\x00\x00", "\xff\xff\xff\xff", allBytes(), "\u00e9\u4e16",
		mixedText(300), mixedText(impl.MaxText - 1), mixedText(impl.MaxText),
	}
}

func TestSealedIsUnsealed(t *testing.T) {
	if got, ok := impl.Sealed(""); !ok || got != "\xff\xff\xff\xff" {
		t.Errorf("Sealed of nothing = %q, %v", got, ok)
	}
	for _, text := range textsToSeal() {
		sealed, ok := impl.Sealed(text)
		if !ok || sealed != withSum(text) {
			t.Fatalf("Sealed of %d bytes: %d bytes, %v", len(text), len(sealed), ok)
		}
		if got, ok := impl.Unsealed(sealed); !ok || got != text {
			t.Fatalf("Unsealed of %d bytes: %d bytes, %v", len(sealed), len(got), ok)
		}
	}
}

func TestSealedIsSealedAgain(t *testing.T) {
	once, _ := impl.Sealed("pump")
	twice, ok := impl.Sealed(once)
	if !ok || twice != withSum(withSum("pump")) {
		t.Fatalf("Sealed twice = %q, %v", twice, ok)
	}
	if got, ok := impl.Unsealed(twice); !ok || got != once {
		t.Errorf("Unsealed of what is sealed twice = %q, %v", got, ok)
	}
}

func TestSealedRefuses(t *testing.T) {
	for _, size := range []int{impl.MaxText + 1, impl.MaxText + 4, 2 * impl.MaxText} {
		if got, ok := impl.Sealed(mixedText(size)); ok || got != "" {
			t.Errorf("Sealed of %d bytes: %d bytes, %v", size, len(got), ok)
		}
	}
}

func refuseUnsealed(t *testing.T, text string, why string) {
	t.Helper()
	if got, ok := impl.Unsealed(text); ok || got != "" {
		t.Fatalf("Unsealed of %d bytes (%s): %d bytes, %v", len(text), why, len(got), ok)
	}
}

func TestUnsealedRefusesOneByteTurned(t *testing.T) {
	for _, text := range []string{"", "a", "\x00", "abc", "\x00\x00\x00\x00\x00", "\xff\xff\xff\xff", allBytes()} {
		sealed, _ := impl.Sealed(text)
		for at := 0; at < len(sealed); at++ {
			for turn := 1; turn < 256; turn++ {
				turned := []byte(sealed)
				turned[at] ^= byte(turn)
				refuseUnsealed(t, string(turned), "a byte turned")
			}
		}
	}
	longest, _ := impl.Sealed(mixedText(impl.MaxText))
	for _, at := range []int{0, 1, 9999, impl.MaxText - 1, impl.MaxText, impl.MaxText + 1, impl.MaxText + 3} {
		for turn := 1; turn < 256; turn++ {
			turned := []byte(longest)
			turned[at] ^= byte(turn)
			refuseUnsealed(t, string(turned), "a byte of the longest turned")
		}
	}
}

func TestUnsealedRefusesOtherLengths(t *testing.T) {
	for _, text := range []string{"", "\x00", "\xff", "\xff\xff", "\xff\xff\xff", "\x00\x00\x00", "abc"} {
		refuseUnsealed(t, text, "fewer than four")
	}
	for _, text := range []string{"", "a", "abc", allBytes(), mixedText(1000), mixedText(impl.MaxText)} {
		sealed, _ := impl.Sealed(text)
		refuseUnsealed(t, sealed[1:], "without the first")
		refuseUnsealed(t, sealed[:len(sealed)-1], "without the last")
		for c := 0; c < 256; c++ {
			one := string([]byte{byte(c)})
			refuseUnsealed(t, sealed+one, "one behind")
			refuseUnsealed(t, one+sealed, "one ahead")
		}
	}
	for _, size := range []int{impl.MaxText + 1, impl.MaxText + 2, impl.MaxText + 4, impl.MaxText + 5, 2 * impl.MaxText} {
		refuseUnsealed(t, withSum(mixedText(size)), "too long, with a right sum")
	}
}

func TestUnsealedRefusesOtherOrders(t *testing.T) {
	for _, text := range []string{"abc", allBytes(), mixedText(500)} {
		sum := bitByBit(math.MaxUint32, text)
		a, b, c, d := byte(sum>>24), byte(sum>>16), byte(sum>>8), byte(sum)
		if a == b || a == c || a == d || b == c || b == d || c == d {
			t.Fatalf("the sum %x has two bytes alike", sum)
		}
		for _, order := range [][]byte{{d, c, b, a}, {b, a, d, c}, {c, d, a, b}, {a, b, d, c}, {b, a, c, d}, {a, c, b, d}, {d, a, b, c}} {
			refuseUnsealed(t, text+string(order), "the sum in another order")
		}
		refuseUnsealed(t, string([]byte{a, b, c, d})+text, "the sum ahead")
		refuseUnsealed(t, string(binary.BigEndian.AppendUint32([]byte(text), ^sum)), "the sum turned")
		refuseUnsealed(t, string(binary.BigEndian.AppendUint32([]byte(text), bitByBit(0, text))), "a sum that began at 0")
	}
}

func TestUnsealedOfManyTexts(t *testing.T) {
	textsOf("\x00\xff\x80\x01", 7, func(text string) {
		want, fine := "", false
		if size := len(text) - 4; size >= 0 && withSum(text[:size]) == text {
			want, fine = text[:size], true
		}
		if got, ok := impl.Unsealed(text); ok != fine || got != want {
			t.Fatalf("Unsealed(%q) = %q, %v, want %q, %v", text, got, ok, want, fine)
		}
	})
}
