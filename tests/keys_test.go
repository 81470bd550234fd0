package tests

import (
	"fmt"
	"math"
	"regexp"
	"strconv"
	"strings"
	"sync"
	"testing"
	"unsafe"

	"loop.example/g00200/impl"
)

func topMenu() impl.Menu {
	return impl.Menu{At: 1}
}

// typedMenus are right ones that are not at the top, with such Digits: at each of the three, with all flags and numbers that may be.
func typedMenus(digits string) []impl.Menu {
	var out []impl.Menu
	for _, at := range []int{2, 3, 4} {
		for _, bolus := range []bool{false, true} {
			listsOf(2, []int{0, 1, 7, 1000, 9999}, func(list []int) {
				out = append(out, impl.Menu{At: at, Bolus: bolus, Num: list[0], Den: list[1], Digits: digits})
			})
		}
	}
	return out
}

func rightDigits() []string {
	return []string{"", "0", "1", "5", "9", "00", "07", "10", "99", "000", "001", "100", "358", "999", "0000", "0001", "0042", "0100", "0101", "1000", "1001", "5000", "5001", "9000", "9999"}
}

// wrongDigits are too long, or have a sign that is no figure at one place.
func wrongDigits() []string {
	out := []string{"00000", "12345", "99999", "00001", "123456789", strings.Repeat("7", 300), strings.Repeat("0", 70000), "12a45", "1234\n"}
	for _, sign := range []string{"/", ":", " ", "a", "b", "c", "x", "\n", "\x00", "-", "+", ".", "\x7f", "\x80", "\xb0", "\xb5", "\xff", "e", "A", "²", "٣", "0"} {
		for size := range 5 {
			for place := range size + 1 {
				text := strings.Repeat("3", place) + sign + strings.Repeat("4", size-place)
				if !regexp.MustCompile(`\A\d{1,4}\z`).MatchString(text) {
					out = append(out, text)
				}
			}
		}
	}
	return out
}

func rightMenus() []impl.Menu {
	out := []impl.Menu{topMenu()}
	for _, digits := range rightDigits() {
		out = append(out, typedMenus(digits)...)
	}
	return out
}

func numbersNotTyped() []int {
	return []int{-1, -2, -9999, -10000, 10000, 10001, 99999, 1 << 16, 1 << 32, 1<<32 + 5, -1 << 32, math.MaxInt, math.MinInt, math.MaxInt - 1, math.MinInt + 1}
}

// wrongMenus have each one thing alone that is not right.
func wrongMenus() []impl.Menu {
	out := []impl.Menu{{}, {At: 1, Digits: "0"}, {At: 1, Digits: "1234"}, {At: 1, Digits: "c"}, {At: 1, Bolus: true}, {At: 1, Num: 1}, {At: 1, Den: 1}, {At: 1, Num: 9999}, {At: 1, Den: 9999}}
	for _, at := range []int{0, 5, 6, -1, -2, -4, 256, 257, 258, 260, 1<<32 + 1, 1<<32 + 2, math.MaxInt, math.MinInt} {
		out = append(out, impl.Menu{At: at}, impl.Menu{At: at, Digits: "7"}, impl.Menu{At: at, Bolus: true, Num: 1, Den: 1})
	}
	for _, at := range []int{1, 2, 3, 4} {
		for _, n := range numbersNotTyped() {
			out = append(out, impl.Menu{At: at, Num: n}, impl.Menu{At: at, Den: n}, impl.Menu{At: at, Num: n, Den: n, Bolus: true, Digits: "1"}, impl.Menu{At: at, Num: n, Den: -n})
		}
		for _, digits := range wrongDigits() {
			out = append(out, impl.Menu{At: at, Digits: digits}, impl.Menu{At: at, Bolus: true, Num: 2, Den: 3, Digits: digits})
		}
	}
	return out
}

func tellMenuOk(m impl.Menu) bool {
	if m.At < 1 || m.At > 4 || m.Num < 0 || m.Den < 0 || m.Num/10000 != 0 || m.Den/10000 != 0 {
		return false
	}
	if m.At == 1 && (m.Bolus || m.Num+m.Den+len(m.Digits) != 0) {
		return false
	}
	return len(m.Digits) <= 4 && strings.Trim(m.Digits, "0123456789") == ""
}

// tellPress goes by the key first, and then by where the menu is.
func tellPress(m impl.Menu, key int) (impl.Menu, impl.Order, bool) {
	if !tellMenuOk(m) || key < 0 || key >= 128 {
		return m, impl.Order{}, false
	}
	atTop := m.At == 1
	if kind := map[byte]int{'p': 3, 'g': 4, 's': 5, 'x': 6}[byte(key)]; kind > 0 && atTop {
		return m, impl.Order{Kind: kind}, true
	}
	switch {
	case key == 'b' && atTop:
		return impl.Menu{At: 2}, impl.Order{}, false
	case key == 'o' && atTop:
		return impl.Menu{At: 4, Bolus: true}, impl.Order{}, false
	case key == 'c' && !atTop:
		return impl.Menu{At: 1}, impl.Order{}, false
	case key == 10 && !atTop:
		return tellEntered(m)
	case strings.IndexByte("0123456789", byte(key)) >= 0 && !atTop && len(m.Digits) != 4:
		m.Digits = strings.Join([]string{m.Digits, strconv.Itoa(key - 48)}, "")
	}
	return m, impl.Order{}, false
}

func tellEntered(m impl.Menu) (impl.Menu, impl.Order, bool) {
	n, _ := strconv.Atoi("0" + m.Digits)
	switch m.At {
	case 2:
		return impl.Menu{At: 3, Bolus: m.Bolus, Num: n, Den: m.Den}, impl.Order{}, false
	case 3:
		return impl.Menu{At: 4, Bolus: m.Bolus, Num: m.Num, Den: n}, impl.Order{}, false
	}
	o := basalOf(m.Num, m.Den, n)
	if m.Bolus {
		o = impl.Order{Kind: 2, Num: m.Num, Den: m.Den, Volume: n}
	}
	if tellOrderOk(o) {
		return topMenu(), o, true
	}
	return topMenu(), impl.Order{}, false
}

func shownMenu(m impl.Menu) string {
	return fmt.Sprintf("{%d %v %d %d %.20q}", m.At, m.Bolus, m.Num, m.Den, m.Digits)
}

func wantMenuOk(t *testing.T, m impl.Menu, want bool) {
	t.Helper()
	if got := impl.MenuOk(m); got != want {
		t.Errorf("MenuOk(%s) = %v, want %v", shownMenu(m), got, want)
	}
}

// wantPress asks for the menu, and for the order or, where that is the zero one, for none.
func wantPress(t *testing.T, m impl.Menu, key int, want impl.Menu, order impl.Order) {
	t.Helper()
	got, o, ok := impl.Press(m, key)
	if got != want || o != order || ok != (order != impl.Order{}) {
		t.Errorf("Press(%s, %d) = %s, %+v, %v, want %s, %+v", shownMenu(m), key, shownMenu(got), o, ok, shownMenu(want), order)
	}
}

func wantToldPress(t *testing.T, m impl.Menu, key int) {
	t.Helper()
	want, order, ok := tellPress(m, key)
	if got, o, made := impl.Press(m, key); got != want || o != order || made != ok {
		t.Errorf("Press(%s, %d) = %s, %+v, %v, want %s, %+v, %v", shownMenu(m), key, shownMenu(got), o, made, shownMenu(want), order, ok)
	}
}

func TestConstantsOfMenus(t *testing.T) {
	if impl.MenuTop != 1 || impl.MenuNum != 2 || impl.MenuDen != 3 || impl.MenuVolume != 4 {
		t.Errorf("the menus are %d, %d, %d, %d", impl.MenuTop, impl.MenuNum, impl.MenuDen, impl.MenuVolume)
	}
}

func TestMenuNew(t *testing.T) {
	for range 3 {
		if m := impl.MenuNew(); m != topMenu() || !impl.MenuOk(m) {
			t.Errorf("MenuNew() = %+v", m)
		}
	}
}

func TestMenuOk(t *testing.T) {
	for _, m := range rightMenus() {
		wantMenuOk(t, m, true)
	}
	for _, m := range wrongMenus() {
		wantMenuOk(t, m, false)
	}
}

func TestMenuOkOfPlaces(t *testing.T) {
	places := []int{0, 5, -1, math.MaxInt, math.MinInt, 256 + 1, 256 + 2, -255, 1<<32 + 1, 1<<32 + 3, 1<<62 + 2, 8, 9, 10}
	for _, at := range places {
		wantMenuOk(t, impl.Menu{At: at}, false)
	}
	for _, at := range []int{1, 2, 3, 4} {
		wantMenuOk(t, impl.Menu{At: at}, true)
		wantMenuOk(t, impl.Menu{At: at, Bolus: true}, at != 1)
	}
}

func TestMenuOkOfNumbers(t *testing.T) {
	for _, at := range []int{1, 2, 3, 4} {
		for _, n := range []int{0, 1, 2, 9, 10, 999, 1000, 1001, 5000, 9998, 9999} {
			right := n == 0 || at != 1
			wantMenuOk(t, impl.Menu{At: at, Num: n}, right)
			wantMenuOk(t, impl.Menu{At: at, Den: n}, right)
			wantMenuOk(t, impl.Menu{At: at, Num: n, Den: n}, right)
			wantMenuOk(t, impl.Menu{At: at, Num: n, Den: 10000}, false)
			wantMenuOk(t, impl.Menu{At: at, Num: -1, Den: n}, false)
		}
		for _, n := range numbersNotTyped() {
			wantMenuOk(t, impl.Menu{At: at, Num: n}, false)
			wantMenuOk(t, impl.Menu{At: at, Den: n}, false)
			wantMenuOk(t, impl.Menu{At: at, Num: n, Den: n}, false)
		}
	}
	// At the top no two numbers make up for each other.
	wantMenuOk(t, impl.Menu{At: 1, Num: 1, Den: -1}, false)
	wantMenuOk(t, impl.Menu{At: 1, Num: math.MinInt, Den: math.MinInt}, false)
}

func TestMenuOkOfEverySignAtEachPlace(t *testing.T) {
	for _, at := range []int{1, 2, 3, 4} {
		for size := 1; size <= 6; size++ {
			for place := range size {
				for sign := range 256 {
					digits := []byte(strings.Repeat("6", size))
					digits[place] = byte(sign)
					isFigure := '0' <= sign && sign <= '9'
					wantMenuOk(t, impl.Menu{At: at, Digits: string(digits)}, at != 1 && size <= 4 && isFigure)
				}
			}
		}
	}
}

func TestMenuOkOfDigits(t *testing.T) {
	for _, at := range []int{2, 3, 4} {
		textsOf("07/:\xb7", 5, func(digits string) {
			wantMenuOk(t, impl.Menu{At: at, Digits: digits}, regexp.MustCompile(`\A[07]{0,4}\z`).MatchString(digits))
		})
		for many := range 40 {
			wantMenuOk(t, impl.Menu{At: at, Digits: strings.Repeat("8", many)}, many <= 4)
		}
	}
	for _, digits := range rightDigits() {
		wantMenuOk(t, impl.Menu{At: 1, Digits: digits}, digits == "")
	}
}

func TestPressAtTheTop(t *testing.T) {
	top := topMenu()
	wantPress(t, top, 'b', impl.Menu{At: impl.MenuNum}, impl.Order{})
	wantPress(t, top, 'o', impl.Menu{At: impl.MenuVolume, Bolus: true}, impl.Order{})
	wantPress(t, top, 'p', top, impl.Order{Kind: impl.OrderPause})
	wantPress(t, top, 'g', top, impl.Order{Kind: impl.OrderGo})
	wantPress(t, top, 's', top, impl.Order{Kind: impl.OrderSeen})
	wantPress(t, top, 'x', top, impl.Order{Kind: impl.OrderStop})
	for key := range 256 {
		if strings.IndexByte("bopgsx", byte(key)) < 0 {
			wantPress(t, top, key, top, impl.Order{})
		}
	}
}

func TestPressOfFigures(t *testing.T) {
	for _, digits := range rightDigits() {
		for _, m := range typedMenus(digits) {
			for figure := range 10 {
				want := m
				want.Digits = (digits + strconv.Itoa(figure))[:min(len(digits)+1, 4)]
				wantPress(t, m, '0'+figure, want, impl.Order{})
			}
		}
	}
}

// A fifth figure and all behind it are thrown away; what was typed ahead stays.
func TestFiguresBehindTheFourth(t *testing.T) {
	for _, ahead := range []string{"b", "b1\n", "b1\n1\n", "o"} {
		start, _ := impl.PressAll(topMenu(), ahead)
		for _, figures := range []string{"12345", "00001", "99990", "1234567890", "00000", "10000", "10005555", strings.Repeat("45", 40)} {
			m, orders := impl.PressAll(start, figures)
			want := start
			want.Digits = figures[:4]
			if m != want || len(orders) != 0 {
				t.Errorf("behind %q, %.20q makes %s, %v, want %s", ahead, figures, shownMenu(m), orders, shownMenu(want))
			}
			for key := '0'; key <= '9'; key++ {
				wantPress(t, m, int(key), want, impl.Order{})
			}
		}
	}
}

func TestPressOfC(t *testing.T) {
	for _, m := range rightMenus() {
		wantPress(t, m, 'c', topMenu(), impl.Order{})
		wantToldPress(t, m, 'C')
	}
}

func TestPressOfEnter(t *testing.T) {
	for _, c := range []struct {
		digits string
		n      int
	}{
		{"", 0}, {"0", 0}, {"7", 7}, {"00", 0}, {"07", 7}, {"70", 70}, {"000", 0}, {"0000", 0}, {"0001", 1}, {"0010", 10}, {"0100", 100}, {"0999", 999}, {"1000", 1000}, {"1234", 1234}, {"9999", 9999}, {"010", 10}, {"08", 8},
	} {
		for _, m := range typedMenus(c.digits) {
			switch m.At {
			case 2:
				wantPress(t, m, 10, impl.Menu{At: 3, Bolus: m.Bolus, Num: c.n, Den: m.Den}, impl.Order{})
			case 3:
				wantPress(t, m, 10, impl.Menu{At: 4, Bolus: m.Bolus, Num: m.Num, Den: c.n}, impl.Order{})
			case 4:
				order := impl.Order{Kind: 1, Num: m.Num, Den: m.Den, Volume: c.n}
				if m.Bolus {
					order.Kind = 2
				}
				if !tellOrderOk(order) {
					order = impl.Order{}
				}
				wantPress(t, m, 10, topMenu(), order)
			}
		}
	}
	wantPress(t, topMenu(), 10, topMenu(), impl.Order{})
}

func TestPressElsewhereOfOtherKeys(t *testing.T) {
	for _, digits := range []string{"", "0", "12", "358", "9999"} {
		for _, m := range typedMenus(digits) {
			for key := range 256 {
				if strings.IndexByte("0123456789c\n", byte(key)) < 0 {
					wantPress(t, m, key, m, impl.Order{})
				}
			}
		}
	}
}

// keysThatAreNoBytes have some whose low bits are a key.
func keysThatAreNoBytes() []int {
	out := []int{-1, -2, -10, -48, -256, -257, 256, 257, 1000, 65533, 0x10ffff, 0x110000, math.MaxInt, math.MinInt, math.MaxInt32, math.MinInt32, math.MaxInt32 + 1}
	for _, key := range "bopgsxc\n0159" {
		for _, high := range []int{1 << 8, 1 << 9, 1 << 16, 1 << 21, 1 << 31, 1 << 32, 1 << 33, 1 << 62, 3 << 8} {
			out = append(out, int(key)+high, int(key)-high)
		}
		out = append(out, int(key)|math.MinInt, -int(key), int(key)-256)
	}
	return out
}

func TestKeysThatAreNoBytes(t *testing.T) {
	menus := append(typedMenus(""), typedMenus("5")...)
	menus = append(menus, topMenu(), impl.Menu{At: 4, Bolus: true, Digits: "50"}, impl.Menu{At: 4, Num: 1, Den: 2, Digits: "1234"})
	for _, m := range menus {
		for _, key := range keysThatAreNoBytes() {
			wantPress(t, m, key, m, impl.Order{})
		}
	}
}

func TestPressOfMenusThatAreNotRight(t *testing.T) {
	for _, m := range wrongMenus() {
		for _, key := range []int{'b', 'o', 'p', 'g', 's', 'x', 'c', 10, '0', '1', '9', 'a', 0, 255, -1, 256, 256 + 'b', math.MaxInt, math.MinInt} {
			wantPress(t, m, key, m, impl.Order{})
		}
	}
}

func TestPressOfEveryByte(t *testing.T) {
	for _, m := range rightMenus() {
		for key := -3; key < 260; key++ {
			wantToldPress(t, m, key)
		}
	}
}

func TestPressAtAllEdges(t *testing.T) {
	keys := []int{'b', 'o', 'p', 'c', 10, '0', '7', 200, -1, 256 + 'o'}
	right := 0
	for _, at := range []int{0, 1, 2, 3, 4, 5, -1, math.MaxInt, math.MinInt} {
		for _, digits := range []string{"", "0", "0100", "0101", "5000", "5001", "12345", "/", ":", "1\n", "\xff"} {
			listsOf(2, []int{0, 1, 3, 4, 1000, 1001, 9999, 10000, -1, math.MaxInt, math.MinInt}, func(list []int) {
				for _, bolus := range []bool{false, true} {
					m := impl.Menu{At: at, Bolus: bolus, Num: list[0], Den: list[1], Digits: digits}
					wantMenuOk(t, m, tellMenuOk(m))
					for _, key := range keys {
						wantToldPress(t, m, key)
						if _, o, ok := impl.Press(m, key); ok && impl.OrderOk(o) {
							right++
						}
					}
				}
			})
		}
	}
	if right < 10 {
		t.Errorf("only %d orders were right", right)
	}
}

func textExtent(text string) extent {
	return extentOf(unsafe.Slice(unsafe.StringData(text), len(text)))
}

// What stays of Digits is a text of its own.
func TestMenusHaveTheirOwnDigits(t *testing.T) {
	for _, m := range append(rightMenus(), wrongMenus()...) {
		if m.Digits == "" {
			continue
		}
		m.Digits = strings.Clone(m.Digits)
		given := []extent{textExtent(m.Digits)}
		for _, key := range []int{'b', '1', 'q', -1} {
			if got, _, _ := impl.Press(m, key); got.Digits != "" {
				wantOwnMemory(t, "Press", given, []extent{textExtent(got.Digits)})
			}
		}
		for _, keys := range []string{"", "q", "\xff", "1"} {
			if got, _ := impl.PressAll(m, keys); got.Digits != "" {
				wantOwnMemory(t, "PressAll", given, []extent{textExtent(got.Digits)})
			}
		}
	}
}

func TestPressManyAtOnce(t *testing.T) {
	var all sync.WaitGroup
	menus := rightMenus()
	for part := range 8 {
		all.Go(func() {
			for i := part; i < len(menus); i += 8 {
				for _, key := range []int{'b', '4', 10, 'c', 'x', 300} {
					wantToldPress(t, menus[i], key)
				}
			}
		})
	}
	all.Wait()
}
