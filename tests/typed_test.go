package tests

import (
	"fmt"
	"math"
	"slices"
	"strings"
	"sync"
	"testing"

	"loop.example/g00200/impl"
)

// tellPressAll presses byte by byte.
func tellPressAll(m impl.Menu, keys string) (impl.Menu, []impl.Order) {
	var orders []impl.Order
	for i := range len(keys) {
		next, o, ok := tellPress(m, int(keys[i]))
		if ok {
			orders = append(orders, o)
		}
		m = next
	}
	return m, orders
}

func wantPressAll(t *testing.T, m impl.Menu, keys string, want impl.Menu, orders ...impl.Order) {
	t.Helper()
	if got, list := impl.PressAll(m, keys); got != want || !slices.Equal(list, orders) {
		t.Errorf("PressAll(%s, %.60q) = %s, %+v, want %s, %+v", shownMenu(m), keys, shownMenu(got), list[:min(len(list), 9)], shownMenu(want), orders[:min(len(orders), 9)])
	}
}

// wantKeys asks for what is told, and that all of it is right.
func wantKeys(t *testing.T, m impl.Menu, keys string) []impl.Order {
	t.Helper()
	want, orders := tellPressAll(m, keys)
	wantPressAll(t, m, keys, want, orders...)
	got, list := impl.PressAll(m, keys)
	if impl.MenuOk(m) && !impl.MenuOk(got) {
		t.Errorf("behind %.60q the menu %s is not right", keys, shownMenu(got))
	}
	for _, o := range list {
		if !impl.OrderOk(o) {
			t.Errorf("%.60q make %+v, which is not right", keys, o)
		}
	}
	return list
}

func basalKeys(num int, den int, volume int) string {
	return fmt.Sprintf("b%d\n%d\n%d\n", num, den, volume)
}

func bolusKeys(volume int) string {
	return fmt.Sprintf("o%d\n", volume)
}

func keysOfOrder(o impl.Order) string {
	switch o.Kind {
	case impl.OrderBasal:
		return basalKeys(o.Num, o.Den, o.Volume)
	case impl.OrderBolus:
		return bolusKeys(o.Volume)
	}
	return map[int]string{impl.OrderPause: "p", impl.OrderGo: "g", impl.OrderSeen: "s", impl.OrderStop: "x"}[o.Kind]
}

func TestKeysOfOrders(t *testing.T) {
	top := impl.MenuNew()
	wantPressAll(t, top, "b3\n2\n40\no5\nb1c", top, basalOf(3, 2, 40), bolusOf(5))
	wantPressAll(t, top, "b1\n2\n300\n", top, basalOf(1, 2, 300))
	wantPressAll(t, top, "b0001\n0002\n0300\n", top, basalOf(1, 2, 300))
	wantPressAll(t, top, "b1000\n1000\n5000\n", top, basalOf(1000, 1000, 5000))
	wantPressAll(t, top, "b10009\n10009\n50009\n", top, basalOf(1000, 1000, 5000))
	wantPressAll(t, top, "o100\n", top, bolusOf(100))
	wantPressAll(t, top, "o0100\n", top, bolusOf(100))
	wantPressAll(t, top, "o01000\n", top, bolusOf(100))
	wantPressAll(t, top, "o00001\n", top)
	wantPressAll(t, top, "o00015\n", top, bolusOf(1))
	wantPressAll(t, top, "pgsx", top, impl.Order{Kind: 3}, impl.Order{Kind: 4}, impl.Order{Kind: 5}, impl.Order{Kind: 6})
	wantPressAll(t, top, "xsgpx", top, impl.Order{Kind: 6}, impl.Order{Kind: 5}, impl.Order{Kind: 4}, impl.Order{Kind: 3}, impl.Order{Kind: 6})
	wantPressAll(t, top, "", top)
	wantPressAll(t, top, "0123456789c\n\nq", top)
}

func TestKeysThatMakeNoOrder(t *testing.T) {
	top := impl.MenuNew()
	for _, keys := range []string{
		"b1\n0\n5\n", "b1\n\n5\n", "b\n1\n5\n", "b0\n1\n5\n", "b1\n1\n0\n", "b1\n1\n\n", "b\n\n\n", "b0\n0\n0\n",
		"b4\n1\n5\n", "b7\n2\n5\n", "b1001\n1000\n5\n", "b1\n1001\n5\n", "b1\n1\n5001\n", "b9999\n9999\n9999\n", "b1000\n333\n5\n",
		"o\n", "o0\n", "o0000\n", "o101\n", "o0101\n", "o1010\n", "o5000\n", "o9999\n", "o1001\n",
	} {
		wantPressAll(t, top, keys, top)
		wantPressAll(t, top, keys+"p", top, impl.Order{Kind: 3})
		wantPressAll(t, top, "x"+keys+"o7\n"+keys, top, impl.Order{Kind: 6}, bolusOf(7))
		_, o, ok := impl.Press(mustPress(t, keys[:len(keys)-1]), 10)
		if o != (impl.Order{}) || ok {
			t.Errorf("the last key of %q makes %+v, %v", keys, o, ok)
		}
	}
}

// mustPress answers the menu behind keys that make no order.
func mustPress(t *testing.T, keys string) impl.Menu {
	t.Helper()
	m, orders := impl.PressAll(impl.MenuNew(), keys)
	if len(orders) != 0 {
		t.Fatalf("%q make %+v", keys, orders)
	}
	return m
}

func TestMenusOnTheWay(t *testing.T) {
	for _, c := range []struct {
		keys string
		want impl.Menu
	}{
		{"b", impl.Menu{At: 2}}, {"b3", impl.Menu{At: 2, Digits: "3"}}, {"b03", impl.Menu{At: 2, Digits: "03"}},
		{"b3\n", impl.Menu{At: 3, Num: 3}}, {"b\n", impl.Menu{At: 3}}, {"b3\n2", impl.Menu{At: 3, Num: 3, Digits: "2"}},
		{"b3\n2\n", impl.Menu{At: 4, Num: 3, Den: 2}}, {"b3\n\n", impl.Menu{At: 4, Num: 3}}, {"b3\n2\n40", impl.Menu{At: 4, Num: 3, Den: 2, Digits: "40"}},
		{"b99999\n", impl.Menu{At: 3, Num: 9999}}, {"b99999\n99998\n99997", impl.Menu{At: 4, Num: 9999, Den: 9999, Digits: "9999"}},
		{"o", impl.Menu{At: 4, Bolus: true}}, {"o00", impl.Menu{At: 4, Bolus: true, Digits: "00"}}, {"obpgsxo5", impl.Menu{At: 4, Bolus: true, Digits: "5"}},
		{"bc", impl.Menu{At: 1}}, {"b3c", impl.Menu{At: 1}}, {"b3\nc", impl.Menu{At: 1}}, {"b3\n2\n4c", impl.Menu{At: 1}}, {"oc", impl.Menu{At: 1}}, {"o12c", impl.Menu{At: 1}},
		{"b3cb", impl.Menu{At: 2}}, {"b3\n2co", impl.Menu{At: 4, Bolus: true}}, {"ocb", impl.Menu{At: 2}}, {"b3\n2\nco7", impl.Menu{At: 4, Bolus: true, Digits: "7"}},
		{"o5cb1\n", impl.Menu{At: 3, Num: 1}}, {"12b", impl.Menu{At: 2}}, {"\n\nb\n", impl.Menu{At: 3}},
	} {
		wantPressAll(t, impl.MenuNew(), c.keys, c.want)
		wantMenuOk(t, c.want, true)
	}
}

func TestRightOrdersComeFromTheirKeys(t *testing.T) {
	for _, o := range rightOrders() {
		wantPressAll(t, impl.MenuNew(), keysOfOrder(o), impl.MenuNew(), o)
	}
}

func TestEveryVolume(t *testing.T) {
	for volume := range 10000 {
		orders := []impl.Order{}
		if 1 <= volume && volume <= 5000 {
			orders = append(orders, basalOf(1, 1, volume))
		}
		if 1 <= volume && volume <= 100 {
			orders = append(orders, bolusOf(volume))
		}
		wantPressAll(t, impl.MenuNew(), basalKeys(1, 1, volume)+bolusKeys(volume), impl.MenuNew(), orders...)
		wantPressAll(t, impl.MenuNew(), fmt.Sprintf("b1\n1\n%04d5\no%04d5\n", volume, volume), impl.MenuNew(), orders...)
	}
}

func TestEveryNumAndDen(t *testing.T) {
	for n := range 10000 {
		for _, keys := range []string{basalKeys(n, 1000, 1), basalKeys(n, 3, 1), basalKeys(1, n, 1), basalKeys(3, n, 5000), basalKeys(n, n, 9)} {
			wantKeys(t, impl.MenuNew(), keys)
		}
	}
}

func TestKeysOfAllShortTexts(t *testing.T) {
	made := 0
	for _, start := range []string{"", "b", "b1\n", "b1\n2\n", "o", "o12", "b9999\n1"} {
		m := mustPress(t, start)
		textsOf("bo1c\np\xc3", 5, func(keys string) {
			made += len(wantKeys(t, m, keys))
		})
	}
	if made < 10000 {
		t.Errorf("only %d orders were made", made)
	}
}

func TestManyKeys(t *testing.T) {
	var keys strings.Builder
	var want []impl.Order
	for round := range 60 {
		for _, o := range rightOrders() {
			keys.WriteString(keysOfOrder(o))
			want = append(want, o)
		}
		keys.WriteString("b5\nc" + strings.Repeat("q", round))
	}
	wantPressAll(t, impl.MenuNew(), keys.String()+"o4", impl.Menu{At: 4, Bolus: true, Digits: "4"}, want...)
	wantPressAll(t, impl.MenuNew(), strings.Repeat("x", 100000), impl.MenuNew(), slices.Repeat([]impl.Order{{Kind: 6}}, 100000)...)
	wantPressAll(t, impl.MenuNew(), "b"+strings.Repeat("9", 100000), impl.Menu{At: 2, Digits: "9999"})
}

func TestKeysInTwoParts(t *testing.T) {
	keys := "b3\n2\n40\no5\nb1cpé\xe2\x82o00123\ngb\n\n\n\xffo7\ns"
	for cut := range len(keys) + 1 {
		m, first := impl.PressAll(impl.MenuNew(), keys[:cut])
		m, second := impl.PressAll(m, keys[cut:])
		wantPressAll(t, impl.MenuNew(), keys, m, append(first, second...)...)
	}
	wantPressAll(t, impl.MenuNew(), keys, impl.MenuNew(), basalOf(3, 2, 40), bolusOf(5), impl.Order{Kind: 3}, bolusOf(12), impl.Order{Kind: 4}, bolusOf(7), impl.Order{Kind: 5})
}

func TestKeysOneByOne(t *testing.T) {
	keys := "b3\n2\n40\no5\nxé\xffpo0100\nb12345\n\n1c\xf0\x9f\x98\x80s"
	m := impl.MenuNew()
	var orders []impl.Order
	for i := range len(keys) {
		next, o, ok := impl.Press(m, int(keys[i]))
		if ok {
			orders = append(orders, o)
		}
		m = next
	}
	wantPressAll(t, impl.MenuNew(), keys, m, orders...)
}

// textsThatAreNoKeys are of bytes above 127: whole signs, whose numbers may be a key's number and more, and what is no right text.
func textsThatAreNoKeys() []string {
	out := []string{
		"é", "ÿ", "Ā", "ţ", "š", "Ţ", "ı", "ĵ", "Ċ", "\u0085", "\u2028", "\u2029", "\ufeff", "\ufffd", "\u0660", "\u0661", "\uff11", "\uff42", "𝟏", "😀", "\U0010ffff", "ééé", "Ċ😀ţ",
		"\xc3", "\xc3\xc3", "\xe2\x82", "\xe2", "\xf0\x9f\x98", "\xf0\x9f", "\xf0", "\xed\xa0\x80", "\xf4\x90\x80\x80", "\xc0\x8a", "\xc1\xa2", "\xe0\x80\xb1", "\xf0\x80\x80\xb1", "\xfe\xff", "\xff\xff\xff\xff",
	}
	for sign := 128; sign < 256; sign++ {
		out = append(out, string([]byte{byte(sign)}))
	}
	for _, key := range "bopgsxc\n0159" {
		// A sign whose number has that of a key in its low bits.
		out = append(out, string(key+0x100), string(key+0x400), string(key+0x10000), string(key+0x100000))
	}
	return out
}

func TestBytesAbove127(t *testing.T) {
	for _, none := range textsThatAreNoKeys() {
		for _, m := range []impl.Menu{topMenu(), {At: 2, Digits: "5"}, {At: 3, Num: 1, Digits: "50"}, {At: 4, Num: 3, Den: 2, Digits: "7"}, {At: 4, Bolus: true, Digits: "9"}} {
			wantPressAll(t, m, none, m)
			wantPressAll(t, m, none+none, m)
		}
	}
}

// What is no key, wherever it stands, takes nothing from the keys beside it.
func TestBytesAbove127BetweenKeys(t *testing.T) {
	const keys = "b3\n2\n40\no5\npb1c"
	for _, none := range textsThatAreNoKeys() {
		for at := range len(keys) + 1 {
			wantPressAll(t, impl.MenuNew(), keys[:at]+none+keys[at:], impl.MenuNew(), basalOf(3, 2, 40), bolusOf(5), impl.Order{Kind: 3})
		}
		between := none
		for i := range len(keys) {
			between += keys[i:i+1] + none
		}
		wantPressAll(t, impl.MenuNew(), between, impl.MenuNew(), basalOf(3, 2, 40), bolusOf(5), impl.Order{Kind: 3})
	}
}

func TestPressAllOfMenusThatAreNotRight(t *testing.T) {
	for _, m := range wrongMenus() {
		for _, keys := range []string{"", "c", "p", "x", "\n", "1", "o5\n", "b1\n1\n1\n", "cpgsx", "\xff", "é"} {
			wantPressAll(t, m, keys, m)
		}
	}
	long := impl.Menu{At: 2, Digits: strings.Repeat("1", 100000)}
	wantPressAll(t, long, strings.Repeat("cx1\n", 50000), long)
}

func TestPressAllOfAllMenus(t *testing.T) {
	for _, m := range rightMenus() {
		for _, keys := range []string{"", "1", "12345", "\n", "\n\n", "\n\n\n", "\n\n\n\n", "1\n2\n3\n", "c", "cx", "5\np", "bq\xff"} {
			wantKeys(t, m, keys)
		}
	}
}

func TestDrawnKeys(t *testing.T) {
	d := drawer(17)
	const likely = "bbooo01123459\n\n\n\n\n\ncpgsxq\xc3\xa9\xff"
	made := map[int]int{}
	for range 20000 {
		keys := make([]byte, d.below(60))
		for i := range keys {
			keys[i] = likely[d.below(len(likely))]
			if d.below(40) == 0 {
				keys[i] = byte(d.below(256))
			}
		}
		for _, o := range wantKeys(t, impl.MenuNew(), string(keys)) {
			made[o.Kind]++
		}
	}
	for kind := 1; kind <= 6; kind++ {
		if made[kind] < 100 {
			t.Errorf("only %d orders of the kind %d were made", made[kind], kind)
		}
	}
}

func TestDrawnMenus(t *testing.T) {
	d := drawer(170)
	numbers := []int{0, 0, 1, 2, 3, 999, 1000, 1001, 9999, 10000, -1, math.MaxInt, math.MinInt}
	right := 0
	for range 100000 {
		m := impl.Menu{At: d.below(6), Bolus: d.below(2) == 0, Num: numbers[d.below(len(numbers))], Den: numbers[d.below(len(numbers))]}
		for range d.below(6) {
			m.Digits += string(rune('0' + d.below(10) + d.below(60)/59))
		}
		if tellMenuOk(m) {
			right++
		}
		wantMenuOk(t, m, tellMenuOk(m))
		wantToldPress(t, m, d.below(400)-70)
		wantToldPress(t, m, int("bopgsxc\n0123456789"[d.below(18)]))
	}
	if right < 10000 {
		t.Errorf("only %d menus were right", right)
	}
}

func TestKeysAreAnsweredAlike(t *testing.T) {
	keys := []byte("b3\n2\n40\no5\nxb12é\xff")
	given := string(keys)
	first, orders := impl.PressAll(impl.MenuNew(), given)
	want := slices.Clone(orders)
	// What a caller does with an answer is not to be seen in the next one.
	clear(orders)
	var all sync.WaitGroup
	for range 16 {
		all.Go(func() {
			for range 200 {
				m, list := impl.PressAll(impl.MenuNew(), given)
				if m != first || !slices.Equal(list, want) {
					t.Errorf("the same keys make %+v, %+v", m, list)
				}
				clear(list)
			}
		})
	}
	all.Wait()
	if given != string(keys) || impl.MenuNew() != topMenu() {
		t.Error("the keys or the menu were changed")
	}
}
