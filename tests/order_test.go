package tests

import (
	"encoding/binary"
	"math"
	"slices"
	"strings"
	"sync"
	"testing"

	"loop.example/g00200/impl"
)

func basalOf(num int, den int, volume int) impl.Order {
	return impl.Order{Kind: impl.OrderBasal, Num: num, Den: den, Volume: volume}
}

func bolusOf(volume int) impl.Order {
	return impl.Order{Kind: impl.OrderBolus, Volume: volume}
}

func kindsOfNothingElse() []int {
	return []int{impl.OrderPause, impl.OrderGo, impl.OrderSeen, impl.OrderStop}
}

// rightOrders are of each kind, at the edges and between them; their numbers have one byte and two.
func rightOrders() []impl.Order {
	out := []impl.Order{{Kind: 3}, {Kind: 4}, {Kind: 5}, {Kind: 6}}
	for _, volume := range []int{1, 2, 9, 99, 100} {
		out = append(out, bolusOf(volume))
	}
	for _, volume := range []int{1, 2, 127, 128, 129, 255, 256, 4999, 5000} {
		out = append(out, basalOf(1, 1, volume), basalOf(3, 1, volume), basalOf(1, 1000, volume), basalOf(1000, 1000, volume))
	}
	for _, den := range []int{1, 2, 42, 43, 127, 128, 333, 334, 335, 999, 1000} {
		for _, num := range []int{1, 2, 3, 126, 127, 128, 129, 999, 1000} {
			if num <= 3*den {
				out = append(out, basalOf(num, den, 300))
			}
		}
	}
	return out
}

// wrongOrders have each one number alone that is out of its bounds.
func wrongOrders() []impl.Order {
	out := []impl.Order{{}, {Num: 1, Den: 1, Volume: 1}, {Kind: 7}, {Kind: 7, Volume: 1}, {Kind: -1}, {Kind: 257, Num: 1, Den: 1, Volume: 1}, {Kind: 258, Volume: 1}, {Kind: 259}}
	for _, n := range []int{0, -1, -2, math.MinInt, math.MaxInt, -1000, 1 << 32, 1<<32 + 1} {
		out = append(out, basalOf(n, 5, 5), basalOf(5, n, 5), basalOf(5, 5, n), bolusOf(n))
	}
	for _, den := range []int{1, 2, 42, 43, 128, 332, 333} {
		out = append(out, basalOf(3*den+1, den, 1), basalOf(1000, den, 5000))
	}
	out = append(out, basalOf(1001, 1000, 1), basalOf(1, 1001, 1), basalOf(1, 1, 5001), bolusOf(101), bolusOf(128), bolusOf(5000))
	for _, n := range []int{1, -1, 2, 128, math.MaxInt, math.MinInt} {
		out = append(out, impl.Order{Kind: 2, Num: n, Volume: 1}, impl.Order{Kind: 2, Den: n, Volume: 1}, impl.Order{Kind: n, Num: 4, Den: 1, Volume: 1})
		for _, kind := range kindsOfNothingElse() {
			out = append(out, impl.Order{Kind: kind, Num: n}, impl.Order{Kind: kind, Den: n}, impl.Order{Kind: kind, Volume: n})
		}
	}
	return out
}

// tellOrderOk asks for how many Den a Num needs at least, so that nothing is multiplied.
func tellOrderOk(o impl.Order) bool {
	within := func(n int, most int) bool { return n > 0 && n-1 < most }
	if o.Kind == 1 {
		return within(o.Num, 1000) && within(o.Den, 1000) && within(o.Volume, 5000) && (o.Num+2)/3 <= o.Den
	}
	if o.Num != 0 || o.Den != 0 {
		return false
	}
	if o.Kind == 2 {
		return within(o.Volume, 100)
	}
	return o.Volume == 0 && slices.Contains([]int{3, 4, 5, 6}, o.Kind)
}

// bodyOf is an order's bytes without their sum, of whatever numbers from 0 on.
func bodyOf(o impl.Order) string {
	body := []byte{byte(o.Kind)}
	for _, n := range []int{o.Num, o.Den, o.Volume} {
		body = binary.AppendUvarint(body, uint64(n))
	}
	return string(body)
}

func tellOrderText(o impl.Order) string {
	if !tellOrderOk(o) {
		return ""
	}
	return withSum(bodyOf(o))
}

// tellOrder reads loosely, and then holds what it has read against the text.
func tellOrder(text string) (impl.Order, bool) {
	if len(text) < 5 {
		return impl.Order{}, false
	}
	rest := []byte(text[1:])
	numbers := make([]int, 3)
	for i := range numbers {
		n, size := binary.Uvarint(rest)
		numbers[i] = int(n)
		rest = rest[max(size, 0):]
	}
	o := impl.Order{Kind: int(text[0]), Num: numbers[0], Den: numbers[1], Volume: numbers[2]}
	if tellOrderText(o) != text {
		return impl.Order{}, false
	}
	return o, true
}

func wantOrderOk(t *testing.T, o impl.Order, want bool) {
	t.Helper()
	if got := impl.OrderOk(o); got != want {
		t.Errorf("OrderOk(%+v) = %v, want %v", o, got, want)
	}
}

func wantOrderText(t *testing.T, o impl.Order, want string) {
	t.Helper()
	if got, ok := impl.OrderText(o); got != want || ok != (want != "") {
		t.Errorf("OrderText(%+v) = %q, %v, want %q", o, got, ok, want)
	}
}

func wantOrder(t *testing.T, text string, want impl.Order) {
	t.Helper()
	if got, ok := impl.ReadOrder(text); got != want || !ok {
		t.Errorf("ReadOrder(%.90q) = %+v, %v, want %+v", text, got, ok, want)
	}
}

func wantNoOrder(t *testing.T, text string) {
	t.Helper()
	if got, ok := impl.ReadOrder(text); got != (impl.Order{}) || ok {
		t.Errorf("ReadOrder(%.90q) = %+v, %v, want none", text, got, ok)
	}
}

func wantToldOrder(t *testing.T, text string) bool {
	t.Helper()
	want, ok := tellOrder(text)
	if ok {
		wantOrder(t, text, want)
	} else {
		wantNoOrder(t, text)
	}
	return ok
}

func TestConstantsOfOrders(t *testing.T) {
	kinds := []int{impl.OrderBasal, impl.OrderBolus, impl.OrderPause, impl.OrderGo, impl.OrderSeen, impl.OrderStop}
	if !slices.Equal(kinds, []int{1, 2, 3, 4, 5, 6}) || impl.MaxVolume != 5000 || impl.MaxRate != 1000 {
		t.Errorf("the kinds are %v, the limits %d and %d", kinds, impl.MaxVolume, impl.MaxRate)
	}
}

func TestOrderOkOfBasal(t *testing.T) {
	for _, c := range []struct {
		num, den, volume int
		want             bool
	}{
		{1, 0, 1, false}, {1, 1, 1, true}, {1, 1000, 1, true}, {1, 1001, 1, false},
		{0, 1000, 1, false}, {1, 1000, 1, true}, {1000, 1000, 1, true}, {1001, 1000, 1, false},
		{3, 1, 1, true}, {4, 1, 1, false}, {6, 2, 1, true}, {7, 2, 1, false},
		{999, 333, 1, true}, {1000, 333, 1, false}, {1000, 334, 1, true}, {1001, 334, 1, false}, {1002, 334, 1, false},
		{1, 1, 0, false}, {1, 1, 5000, true}, {1, 1, 5001, false},
		{-1, 1, 1, false}, {1, -1, 1, false}, {1, 1, -1, false}, {-3, -1, 1, false}, {-1, -1, -1, false},
		{0, 0, 0, false}, {0, 0, 1, false}, {0, 1, 0, false}, {0, 0, 5000, false}, {1000, 1000, 5000, true},
	} {
		wantOrderOk(t, basalOf(c.num, c.den, c.volume), c.want)
	}
	for _, n := range []int{math.MaxInt, math.MinInt, math.MaxInt - 1, math.MinInt + 1} {
		for _, o := range []impl.Order{basalOf(n, 1, 1), basalOf(1, n, 1), basalOf(1, 1, n), basalOf(n, n, 1), basalOf(n, 1000, 1), basalOf(1000, n, 1), basalOf(n, n, n)} {
			wantOrderOk(t, o, false)
		}
	}
}

// Each Den has a Num that is the greatest: three times as great, as long as it is no greater than MaxRate.
func TestRatesThatAreTooGreat(t *testing.T) {
	for den := 1; den <= 1000; den++ {
		greatest := min(3*den, 1000)
		for num := -3; num <= 3003; num++ {
			if got := impl.OrderOk(basalOf(num, den, 7)); got != (1 <= num && num <= greatest) {
				t.Fatalf("OrderOk of %d by %d = %v", num, den, got)
			}
		}
		wantNoOrder(t, withSum(bodyOf(basalOf(greatest+1, den, 7))))
		wantOrder(t, withSum(bodyOf(basalOf(greatest, den, 7))), basalOf(greatest, den, 7))
		wantOrderText(t, basalOf(greatest+1, den, 7), "")
	}
}

// A Den whose triple goes round to a number that is great enough is still no Den.
func TestDensThatWouldGoRound(t *testing.T) {
	for _, den := range []int{math.MaxInt/3 + 1, math.MaxInt/3 + 2, math.MaxInt / 3, math.MinInt / 3, math.MinInt/3 - 1, math.MinInt/3 - 1000, math.MinInt / 2, math.MaxInt / 2, 6148914691236517206, -6148914691236517205} {
		for _, num := range []int{1, 2, 3, 999, 1000} {
			wantOrderOk(t, basalOf(num, den, 1), false)
			wantOrderText(t, basalOf(num, den, 1), "")
		}
	}
}

func TestOrderOkOfBolus(t *testing.T) {
	for volume := -200; volume <= 6000; volume++ {
		wantOrderOk(t, bolusOf(volume), 1 <= volume && volume <= 100)
	}
	for _, n := range []int{1, -1, 2, 3, 100, 1000, math.MaxInt, math.MinInt} {
		for _, volume := range []int{0, 1, 100, 101} {
			wantOrderOk(t, impl.Order{Kind: impl.OrderBolus, Num: n, Volume: volume}, false)
			wantOrderOk(t, impl.Order{Kind: impl.OrderBolus, Den: n, Volume: volume}, false)
			wantOrderOk(t, impl.Order{Kind: impl.OrderBolus, Num: n, Den: n, Volume: volume}, false)
		}
	}
	wantOrderOk(t, bolusOf(math.MaxInt), false)
	wantOrderOk(t, bolusOf(math.MinInt), false)
}

func TestOrderOkOfNothingElse(t *testing.T) {
	for _, kind := range kindsOfNothingElse() {
		wantOrderOk(t, impl.Order{Kind: kind}, true)
		for _, n := range []int{1, -1, 2, 100, 5000, 256, 1 << 32, math.MaxInt, math.MinInt} {
			wantOrderOk(t, impl.Order{Kind: kind, Num: n}, false)
			wantOrderOk(t, impl.Order{Kind: kind, Den: n}, false)
			wantOrderOk(t, impl.Order{Kind: kind, Volume: n}, false)
			wantOrderOk(t, impl.Order{Kind: kind, Num: n, Den: n, Volume: n}, false)
			wantOrderOk(t, impl.Order{Kind: kind, Num: n, Den: -n}, false)
		}
	}
}

func TestOrderOkOfOtherKinds(t *testing.T) {
	kinds := []int{0, 7, -1, math.MaxInt, math.MinInt, 8, 255, -255}
	for high := 3; high < 63; high++ {
		for low := range 8 {
			kinds = append(kinds, low+1<<high, low-1<<high)
		}
	}
	for _, kind := range kinds {
		for _, o := range []impl.Order{{}, {Volume: 1}, {Num: 1, Den: 1, Volume: 1}, {Num: 1, Den: 1}} {
			o.Kind = kind
			wantOrderOk(t, o, false)
			wantOrderText(t, o, "")
		}
	}
}

func TestOrderOkAtAllEdges(t *testing.T) {
	numbers := []int{0, 1, 2, 3, 4, 99, 100, 101, 333, 334, 999, 1000, 1001, 1002, 3000, 3001, 4999, 5000, 5001, -1, -2, -1000, math.MaxInt, math.MinInt}
	right := 0
	for _, kind := range []int{0, 1, 2, 3, 4, 5, 6, 7, -1, 257, 258, math.MaxInt, math.MinInt} {
		listsOf(3, numbers, func(list []int) {
			o := impl.Order{Kind: kind, Num: list[0], Den: list[1], Volume: list[2]}
			want := tellOrderOk(o)
			wantOrderOk(t, o, want)
			if text, ok := impl.OrderText(o); ok != want || (text != "") != want {
				t.Errorf("OrderText(%+v) = %q, %v, want %v", o, text, ok, want)
			}
			if want {
				right++
			}
		})
	}
	if right < 300 {
		t.Errorf("only %d orders were right", right)
	}
}

func TestOrderTextWritesBytes(t *testing.T) {
	for _, c := range []struct {
		o    impl.Order
		body string
	}{
		{basalOf(1, 1, 1), "\x01\x01\x01\x01"},
		{basalOf(3, 1, 127), "\x01\x03\x01\x7f"},
		{basalOf(1, 2, 128), "\x01\x01\x02\x80\x01"},
		{basalOf(129, 127, 300), "\x01\x81\x01\x7f\xac\x02"},
		{basalOf(999, 333, 4999), "\x01\xe7\x07\xcd\x02\x87\x27"},
		{basalOf(1000, 334, 255), "\x01\xe8\x07\xce\x02\xff\x01"},
		{basalOf(1000, 1000, 5000), "\x01\xe8\x07\xe8\x07\x88\x27"},
		{bolusOf(1), "\x02\x00\x00\x01"},
		{bolusOf(9), "\x02\x00\x00\x09"},
		{bolusOf(100), "\x02\x00\x00\x64"},
		{impl.Order{Kind: impl.OrderPause}, "\x03\x00\x00\x00"},
		{impl.Order{Kind: impl.OrderGo}, "\x04\x00\x00\x00"},
		{impl.Order{Kind: impl.OrderSeen}, "\x05\x00\x00\x00"},
		{impl.Order{Kind: impl.OrderStop}, "\x06\x00\x00\x00"},
	} {
		wantOrderText(t, c.o, withSum(c.body))
		wantOrder(t, withSum(c.body), c.o)
		if sealed, _ := impl.Sealed(c.body); sealed != withSum(c.body) {
			t.Errorf("the sum of %q is another one", c.body)
		}
	}
}

func TestOrderTextRefuses(t *testing.T) {
	for _, o := range wrongOrders() {
		if tellOrderOk(o) {
			t.Fatalf("%+v is right", o)
		}
		wantOrderOk(t, o, false)
		wantOrderText(t, o, "")
	}
}

func TestOrdersComeBackFromTheirBytes(t *testing.T) {
	for _, o := range rightOrders() {
		wantOrderOk(t, o, true)
		wantOrderText(t, o, tellOrderText(o))
		text, _ := impl.OrderText(o)
		wantOrder(t, text, o)
	}
}

func TestAllOrdersOfSmallNumbersComeBack(t *testing.T) {
	for volume := 1; volume <= 100; volume++ {
		wantOrder(t, tellOrderText(bolusOf(volume)), bolusOf(volume))
	}
	for volume := 1; volume <= 5000; volume++ {
		o := basalOf(volume%20+1, volume%30+7, volume)
		wantOrderText(t, o, tellOrderText(o))
		wantOrder(t, tellOrderText(o), o)
	}
}

func TestUnlikeOrdersHaveUnlikeTexts(t *testing.T) {
	seen := map[string]impl.Order{}
	all := rightOrders()
	for volume := 1; volume <= 300; volume++ {
		all = append(all, basalOf(1, 2, volume), basalOf(2, 1, volume), basalOf(volume, 300, 1), basalOf(1, volume, 2))
	}
	for _, o := range all {
		text, _ := impl.OrderText(o)
		if other, told := seen[text]; told && other != o {
			t.Errorf("%+v and %+v have the text %q", o, other, text)
		}
		seen[text] = o
	}
}

func TestDrawnOrdersComeBack(t *testing.T) {
	d := drawer(14)
	right := 0
	for range 50000 {
		o := impl.Order{Kind: d.below(8), Num: d.below(1003), Den: d.below(1003), Volume: d.below(5003)}
		if d.below(2) == 0 {
			o.Num, o.Den, o.Volume = 0, 0, d.below(3)*d.below(60)
		}
		ok := tellOrderOk(o)
		wantOrderOk(t, o, ok)
		wantOrderText(t, o, tellOrderText(o))
		if ok {
			right++
			wantOrder(t, tellOrderText(o), o)
		} else {
			wantNoOrder(t, withSum(bodyOf(o)))
		}
	}
	if right < 5000 {
		t.Errorf("only %d orders were right", right)
	}
}

func TestOrdersWithOneByteTurnedAreRefused(t *testing.T) {
	for _, o := range rightOrders() {
		text := []byte(tellOrderText(o))
		for at, was := range text {
			for c := range 256 {
				if byte(c) != was {
					text[at] = byte(c)
					wantNoOrder(t, string(text))
				}
			}
			text[at] = was
		}
	}
}

func TestReadOrderOfPieces(t *testing.T) {
	wantNoOrder(t, "")
	for _, o := range rightOrders() {
		text := tellOrderText(o)
		for at := range len(text) {
			wantNoOrder(t, text[:at])
			wantNoOrder(t, text[at+1:])
			wantNoOrder(t, text[:at]+text[at+1:])
		}
		wantNoOrder(t, bodyOf(o))
		wantNoOrder(t, text+text)
		wantNoOrder(t, withSum(text))
	}
}

func TestReadOrderOfAByteMore(t *testing.T) {
	for _, o := range rightOrders() {
		text := tellOrderText(o)
		for at := range len(text) + 1 {
			for c := range 256 {
				wantNoOrder(t, text[:at]+string([]byte{byte(c)})+text[at:])
			}
		}
	}
}

func TestReadOrderOfBytesBehindTheThirdNumber(t *testing.T) {
	for _, o := range rightOrders() {
		for c := range 256 {
			wantNoOrder(t, withSum(bodyOf(o)+string([]byte{byte(c)})))
		}
		for _, more := range []string{"\x00\x00", "\x00\x00\x00", "\x80\x00", "\x80\x01", "\xff", bodyOf(o), strings.Repeat("\x00", 100), strings.Repeat("\x80", 100)} {
			wantNoOrder(t, withSum(bodyOf(o)+more))
		}
	}
}

func TestReadOrderOfNumbersThatAreNotThere(t *testing.T) {
	for _, o := range rightOrders() {
		body := bodyOf(o)
		for at := range len(body) {
			wantNoOrder(t, withSum(body[:at]))
		}
		wantNoOrder(t, withSum(body[1:]))
	}
	for kind := range 256 {
		for size := range 4 {
			if size < 3 {
				wantNoOrder(t, withSum(string([]byte{byte(kind)})+strings.Repeat("\x00", size)))
			}
			wantNoOrder(t, withSum(string([]byte{byte(kind)})+strings.Repeat("\x00", size)+"\x80"))
		}
	}
}

func TestReadOrderOfOrdersThatAreNotRight(t *testing.T) {
	read := 0
	for _, o := range wrongOrders() {
		if o.Kind < 0 || o.Kind > 255 || min(o.Num, o.Den, o.Volume) < 0 {
			continue
		}
		read++
		wantNoOrder(t, withSum(bodyOf(o)))
	}
	if read < 80 {
		t.Errorf("only %d orders could be written", read)
	}
	numbers := []int{0, 1, 3, 4, 100, 101, 333, 334, 1000, 1001, 5000, 5001, 16384, 1000000000, 1000000001, 1 << 32, math.MaxInt}
	for _, kind := range []int{0, 1, 2, 3, 4, 5, 6, 7, 127, 128, 129, 130, 131, 134, 255} {
		listsOf(3, numbers, func(list []int) {
			wantToldOrder(t, withSum(bodyOf(impl.Order{Kind: kind, Num: list[0], Den: list[1], Volume: list[2]})))
		})
	}
}

func TestReadOrderOfEveryKind(t *testing.T) {
	for kind := range 256 {
		for _, rest := range []string{"\x00\x00\x00", "\x00\x00\x01", "\x01\x01\x01"} {
			wantToldOrder(t, withSum(string([]byte{byte(kind)})+rest))
		}
	}
	// A kind has one byte, also where a number would have two.
	for _, o := range rightOrders() {
		for _, form := range longerForms(o.Kind) {
			wantNoOrder(t, withSum(form+bodyOf(o)[1:]))
		}
	}
}

func TestReadOrderOfLongerForms(t *testing.T) {
	for _, o := range rightOrders() {
		numbers := []int{o.Num, o.Den, o.Volume}
		for at, n := range numbers {
			for _, form := range longerForms(n) {
				body := binary.AppendUvarint(nil, uint64(o.Kind))
				for i, other := range numbers {
					if i == at {
						body = append(body, form...)
					} else {
						body = binary.AppendUvarint(body, uint64(other))
					}
				}
				wantNoOrder(t, withSum(string(body)))
			}
		}
	}
}

// A sum over other bytes, in another order of its own, or of none, is none.
func TestReadOrderOfOtherSums(t *testing.T) {
	for _, o := range rightOrders() {
		body := bodyOf(o)
		sum := []byte(withSum(body)[len(body):])
		slices.Reverse(sum)
		wantToldOrder(t, body+string(sum))
		wantToldOrder(t, body+"\x00\x00\x00\x00")
		wantToldOrder(t, body+"\xff\xff\xff\xff")
		wantToldOrder(t, string(sum)+body)
		for _, other := range rightOrders() {
			wantToldOrder(t, body+withSum(bodyOf(other))[len(bodyOf(other)):])
		}
	}
}

func TestReadOrderOfShortBodies(t *testing.T) {
	for size := range 6 {
		right := 0
		listsOf(size, []int{0, 1, 2, 3, 6, 7, 100, 101, 128, 255}, func(list []int) {
			body := make([]byte, size)
			for i, n := range list {
				body[i] = byte(n)
			}
			if wantToldOrder(t, withSum(string(body))) {
				right++
			}
		})
		if (right > 0) != (size >= 4) {
			t.Errorf("%d bodies of %d bytes are orders", right, size)
		}
	}
}

func TestReadOrderOfLongTexts(t *testing.T) {
	for _, size := range []int{19, 20, 21, 1000, 19999, 20000, 20001, 1000000} {
		for _, c := range []string{"\x00", "\x01", "\x80", "\xff"} {
			long := strings.Repeat(c, size)
			wantNoOrder(t, long)
			wantNoOrder(t, withSum(long))
			wantNoOrder(t, tellOrderText(bolusOf(1))+long)
			wantNoOrder(t, withSum(bodyOf(bolusOf(1))+long))
			wantNoOrder(t, long+tellOrderText(bolusOf(1)))
		}
	}
}

func TestReadOrderOfDrawnTexts(t *testing.T) {
	d := drawer(41)
	all := rightOrders()
	right := 0
	for range 60000 {
		text := []byte(tellOrderText(all[d.below(len(all))]))
		for range d.below(3) {
			text[d.below(len(text))] = byte(d.below(256))
		}
		body := string(text[:len(text)-4])
		wantToldOrder(t, string(text))
		if wantToldOrder(t, withSum(body)) {
			right++
		}
	}
	if right < 10000 {
		t.Errorf("only %d texts were orders", right)
	}
}

func TestOrdersAreAnsweredAlike(t *testing.T) {
	all := slices.Concat(rightOrders(), wrongOrders())
	for range 10 {
		slices.Reverse(all)
		for _, o := range all {
			text := tellOrderText(o)
			wantOrderOk(t, o, text != "")
			wantOrderText(t, o, text)
			wantToldOrder(t, text)
			wantToldOrder(t, text+"\x00")
		}
	}
}

// Who asks at the same time as others is answered as if alone.
func TestOrdersOfManyAtOnce(t *testing.T) {
	var all sync.WaitGroup
	orders := rightOrders()
	for range 16 {
		all.Go(func() {
			for range 20 {
				for _, o := range orders {
					text, ok := impl.OrderText(o)
					read, right := impl.ReadOrder(text)
					if !ok || !right || read != o || !impl.OrderOk(o) {
						t.Errorf("%+v is told in another way", o)
						return
					}
				}
			}
		})
	}
	all.Wait()
}
