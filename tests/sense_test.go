package tests

import (
	"math"
	"slices"
	"strings"
	"sync"
	"testing"

	"loop.example/g00200/impl"
)

// namesOfSenses are written out, each at the place of its bits.
func namesOfSenses() []string {
	return []string{
		"none", "block", "air", "block,air",
		"door", "block,door", "air,door", "block,air,door",
		"power", "block,power", "air,power", "block,air,power",
		"door,power", "block,door,power", "air,door,power", "block,air,door,power",
	}
}

func fourSenses() []int {
	return []int{impl.SenseBlock, impl.SenseAir, impl.SenseDoor, impl.SensePower}
}

// wrongBits are beside what is right, and numbers whose lowest bits alone would be right.
func wrongBits() []int {
	out := []int{-1, 16, -2, -8, -15, -16, 17, 24, 31, 32, math.MaxInt, math.MinInt, math.MaxInt - 1, math.MinInt + 1}
	for bits := range 16 {
		for _, high := range []int{4, 5, 7, 8, 16, 31, 32, 48, 62} {
			out = append(out, bits+1<<high, bits-1<<high)
		}
		out = append(out, math.MinInt+bits, math.MaxInt-bits)
	}
	return out
}

// noneOfTheFour are right numbers and others.
func noneOfTheFour() []int {
	return slices.Concat([]int{0, 3, 5, 6, 7, 9, 10, 11, 12, 13, 14, 15}, wrongBits())
}

func wantSenseOk(t *testing.T, bits int, want bool) {
	t.Helper()
	if got := impl.SenseOk(bits); got != want {
		t.Errorf("SenseOk(%d) = %v, want %v", bits, got, want)
	}
}

func wantSenseNames(t *testing.T, bits int, want string) {
	t.Helper()
	if got := impl.SenseNames(bits); got != want {
		t.Errorf("SenseNames(%d) = %q, want %q", bits, got, want)
	}
}

func wantSense(t *testing.T, s string, want int, wantOk bool) {
	t.Helper()
	if got, ok := impl.ReadSense(s); got != want || ok != wantOk {
		t.Errorf("ReadSense(%.90q) = %d, %v, want %d, %v", s, got, ok, want, wantOk)
	}
}

func wantHas(t *testing.T, bits int, one int, want bool) {
	t.Helper()
	if got := impl.Has(bits, one); got != want {
		t.Errorf("Has(%d, %d) = %v, want %v", bits, one, got, want)
	}
}

// tellSense looks the text up among the names that are written out.
func tellSense(s string) (int, bool) {
	at := slices.Index(namesOfSenses(), s)
	return max(at, 0), at >= 0
}

// tellHas takes the four one by one out of the bits, from the highest one on.
func tellHas(bits int, one int) bool {
	if bits < 0 || bits > 15 {
		return false
	}
	for _, felt := range []int{8, 4, 2, 1} {
		if bits >= felt {
			bits -= felt
			if felt == one {
				return true
			}
		}
	}
	return false
}

func TestConstantsOfSenses(t *testing.T) {
	if got := fourSenses(); !slices.Equal(got, []int{1, 2, 4, 8}) {
		t.Errorf("the four are %v", got)
	}
}

func TestSenseOk(t *testing.T) {
	for bits := range 16 {
		wantSenseOk(t, bits, true)
	}
	for _, bits := range wrongBits() {
		wantSenseOk(t, bits, false)
	}
}

func TestSenseNames(t *testing.T) {
	for bits, names := range namesOfSenses() {
		wantSenseNames(t, bits, names)
	}
	for _, bits := range wrongBits() {
		wantSenseNames(t, bits, "")
	}
}

func TestSensesComeBackFromTheirNames(t *testing.T) {
	for bits, names := range namesOfSenses() {
		wantSense(t, names, bits, true)
		wantSense(t, impl.SenseNames(bits), bits, true)
	}
	for _, bits := range wrongBits() {
		wantSense(t, impl.SenseNames(bits), 0, false)
	}
}

func TestReadSenseRefuses(t *testing.T) {
	for _, s := range []string{
		"",
		"air,block", "door,block", "power,block", "door,air", "power,air", "power,door",
		"power,door,air,block", "block,air,power,door", "air,block,door,power", "block,door,air", "block,power,door",
		"block,block", "air,air", "door,door", "power,power", "none,none", "block,air,air", "block,block,air", "block,air,block",
		"heat", "block,heat", "heat,block", "1", "0", "5", "blocks", "aired", "block,doors", "xair", "block,airdoor", "blockair", "unknown",
		"Block", "BLOCK", "blocK", "AIR", "Door", "POWER", "None", "NONE", "block,Air", "BLOCK,AIR",
		"none,block", "block,none", "none,air,door", "air,none,door", "none,block,air,door,power", "block,air,door,power,none",
		",", ",,", ",block", "block,", ",none", "none,", "block,,air", "block,air,", ",block,air", "block,,,air", "air,,power", "block,air,,door,power",
		" ", " block", "block ", " none", "none ", "block, air", "block ,air", "block air", " block,air", "block,air ", "bl ock",
		"block\n", "\nblock", "block\x00", "\x00", "\tair", "block;air", "block.air", "block|air", "block+air", "block，air",
		"block,air,door,power,", "block,air,door,power,block", "block,air,door,power,heat", "block,air,door,powers",
		"\xff", "block\xff", "blöck", "block,air,door,power\x80",
	} {
		wantSense(t, s, 0, false)
	}
}

func TestReadSenseOfLongTexts(t *testing.T) {
	whole := "block,air,door,power"
	for _, s := range []string{
		strings.Repeat("x", len(whole)+1), strings.Repeat(",", 100), strings.Repeat("block,", 5), strings.Repeat(whole, 2),
		strings.Repeat(whole+",", 50) + whole, strings.Repeat("none", 5000), strings.Repeat("air", 1000000), whole + strings.Repeat(" ", 1000000),
	} {
		wantSense(t, s, 0, false)
	}
}

// A beginning or an end of names is refused, unless it is names itself.
func TestReadSenseOfPieces(t *testing.T) {
	for _, names := range namesOfSenses() {
		for from := range len(names) + 1 {
			for to := from; to <= len(names); to++ {
				bits, ok := tellSense(names[from:to])
				wantSense(t, names[from:to], bits, ok)
			}
		}
	}
}

func TestReadSenseOfOneByteTurnedPutInOrLeftOut(t *testing.T) {
	ask := func(s string) {
		bits, ok := tellSense(s)
		wantSense(t, s, bits, ok)
	}
	for _, names := range namesOfSenses() {
		for at := range len(names) + 1 {
			for c := range 256 {
				ask(names[:at] + string([]byte{byte(c)}) + names[at:])
				if at < len(names) {
					ask(names[:at] + string([]byte{byte(c)}) + names[at+1:])
				}
			}
			if at < len(names) {
				ask(names[:at] + names[at+1:])
			}
		}
	}
}

// All lists of up to five words are read: just those in order, none of them twice, are taken.
func TestReadSenseOfAllOrders(t *testing.T) {
	words := []string{"block", "air", "door", "power", "none", "heat", ""}
	read := make([]int, 16)
	for size := 1; size <= 5; size++ {
		listsOf(size, []int{0, 1, 2, 3, 4, 5, 6}, func(list []int) {
			var parts []string
			for _, at := range list {
				parts = append(parts, words[at])
			}
			s := strings.Join(parts, ",")
			bits, ok := tellSense(s)
			wantSense(t, s, bits, ok)
			if ok {
				read[bits]++
			}
		})
	}
	if !slices.Equal(read, slices.Repeat([]int{1}, 16)) {
		t.Errorf("the numbers were read so often: %v", read)
	}
}

func TestReadSenseOfDrawnTexts(t *testing.T) {
	d := drawer(13)
	pieces := []string{"block", "air", "door", "power", "none", ",", ",", ",", " ", "b", "r", "BLOCK", "\n", "\xff"}
	right := 0
	for range 100000 {
		s := ""
		for range d.below(6) {
			s += pieces[d.below(len(pieces))]
		}
		bits, ok := tellSense(s)
		wantSense(t, s, bits, ok)
		if ok {
			right++
			wantSenseNames(t, bits, s)
		}
	}
	if right < 1000 {
		t.Errorf("only %d texts were names", right)
	}
}

func TestHas(t *testing.T) {
	for bits, names := range namesOfSenses() {
		for place, name := range []string{"block", "air", "door", "power"} {
			wantHas(t, bits, fourSenses()[place], strings.Contains(names, name))
			wantHas(t, bits, fourSenses()[place], tellHas(bits, fourSenses()[place]))
		}
	}
}

func TestHasOfNoneOfTheFour(t *testing.T) {
	for bits := range 16 {
		for _, one := range noneOfTheFour() {
			wantHas(t, bits, one, false)
		}
	}
}

func TestHasOfWrongBits(t *testing.T) {
	for _, bits := range wrongBits() {
		for _, one := range slices.Concat(fourSenses(), noneOfTheFour()) {
			wantHas(t, bits, one, false)
		}
	}
}

func TestHasOfNumbersAllAround(t *testing.T) {
	for bits := -300; bits <= 300; bits++ {
		wantSenseOk(t, bits, 0 <= bits && bits <= 15)
		for one := -300; one <= 300; one++ {
			wantHas(t, bits, one, tellHas(bits, one))
		}
	}
}

func TestSensesAreAnsweredAlike(t *testing.T) {
	all := slices.Concat(wrongBits(), []int{0, 1, 2, 3, 4, 5, 6, 7, 8, 9, 10, 11, 12, 13, 14, 15})
	for range 20 {
		slices.Reverse(all)
		for _, bits := range all {
			names := ""
			if 0 <= bits && bits <= 15 {
				names = namesOfSenses()[bits]
			}
			wantSenseOk(t, bits, names != "")
			wantSenseNames(t, bits, names)
			read, ok := tellSense(names)
			wantSense(t, names, read, ok)
			wantSense(t, names+",", 0, false)
			for _, one := range fourSenses() {
				wantHas(t, bits, one, tellHas(bits, one))
			}
		}
	}
}

// Who asks at the same time as others is answered as if alone.
func TestSensesOfManyAtOnce(t *testing.T) {
	var all sync.WaitGroup
	for range 16 {
		all.Go(func() {
			for range 200 {
				for bits, names := range namesOfSenses() {
					read, ok := impl.ReadSense(names)
					if !ok || read != bits || impl.SenseNames(bits) != names || !impl.SenseOk(bits) || impl.Has(bits, 4) != tellHas(bits, 4) {
						t.Errorf("%d is told in another way", bits)
						return
					}
				}
			}
		})
	}
	all.Wait()
}
