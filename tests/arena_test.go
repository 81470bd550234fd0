package tests

import (
	"math"
	"math/big"
	"slices"
	"testing"

	"loop.example/g00200/impl"
)

// fence stands around the cells of an arena in its memory, where nothing may be written.
const fence = -77

// fenced answers an arena of some cells, no two alike and none of them 0, and the memory that it lies in.
func fenced(size int, spare int) (impl.Arena, []int) {
	memory := make([]int, 3+size+spare)
	for i := range memory {
		memory[i] = fence
	}
	cells := memory[3 : 3+size]
	for i := range cells {
		cells[i] = 1000 + 7*i
	}
	return impl.Arena{Cells: cells}, memory
}

func someArenas() []int {
	return []int{0, 1, 2, 5, 63, impl.Cells, impl.Cells + 1, 2*impl.Cells + 3}
}

func someRegions() []impl.Region {
	var out []impl.Region
	for _, from := range []int{0, 1, 2, 4, 5, 6, 31, 62, 63, 64, 65, 66, 130, 131, 132, math.MaxInt - 1, math.MaxInt, -1, -2, -64, -math.MaxInt, math.MinInt} {
		for _, size := range []int{0, 1, 2, 3, 5, 6, 33, 63, 64, 65, 131, 132, math.MaxInt - 63, math.MaxInt - 1, math.MaxInt, -1, -64, math.MinInt} {
			out = append(out, impl.Region{From: from, Size: size})
		}
	}
	return out
}

func somePlaces(size int, r impl.Region) []int {
	out := []int{math.MinInt, -64, -1, 0, 1, 2, 3, 62, 63, 64, 65, math.MaxInt - 1, math.MaxInt}
	// The differences may go round, as they would in a program that doesn't look out for it.
	return append(out, r.Size-1, r.Size, r.Size+1, size-r.From-1, size-r.From, size-r.From+1, -r.From, -r.From-1)
}

// placeOf works without a highest number of its own, so that nothing goes round in it.
func placeOf(size int, r impl.Region, at int) (int, bool) {
	if r.From < 0 || at < 0 || at >= r.Size {
		return 0, false
	}
	place := new(big.Int).Add(big.NewInt(int64(r.From)), big.NewInt(int64(at)))
	if place.Cmp(big.NewInt(int64(size))) >= 0 {
		return 0, false
	}
	return int(place.Int64()), true
}

// placesOf asks of each cell whether it is the region's, so that a region of any size is soon gone through.
func placesOf(size int, r impl.Region) []int {
	var out []int
	for place := range size {
		if r.From >= 0 && place >= r.From && place-r.From < r.Size {
			out = append(out, place)
		}
	}
	return out
}

func wantCells(t *testing.T, what string, got []int, want []int) {
	t.Helper()
	if !slices.Equal(got, want) {
		t.Fatalf("%s: cells %v, want %v", what, got, want)
	}
}

func fill(list []int, n int) {
	for i := range list {
		list[i] = n
	}
}

func TestNewArenaIsOfNoughts(t *testing.T) {
	a, b := impl.ArenaNew(), impl.ArenaNew()
	if len(a.Cells) != 64 || impl.Cells != 64 {
		t.Fatalf("ArenaNew has %d cells", len(a.Cells))
	}
	wantCells(t, "ArenaNew", a.Cells, make([]int, 64))
	fill(a.Cells, 9)
	wantCells(t, "ArenaNew beside another", b.Cells, make([]int, 64))
	wantCells(t, "ArenaNew after another", impl.ArenaNew().Cells, make([]int, 64))
}

func TestOneRegion(t *testing.T) {
	for _, c := range []struct {
		from, size int
		want       bool
	}{
		{0, 1, true}, {0, 2, true}, {0, 63, true}, {0, 64, true}, {0, 65, false}, {0, 0, false}, {0, -1, false},
		{1, 62, true}, {1, 63, true}, {1, 64, false}, {1, 65, false}, {31, 33, true}, {31, 34, false}, {32, 32, true}, {32, 33, false},
		{62, 1, true}, {62, 2, true}, {62, 3, false}, {63, 1, true}, {63, 2, false}, {63, 0, false}, {63, -1, false},
		{64, 0, false}, {64, 1, false}, {64, -1, false}, {65, 1, false}, {65, -1, false}, {65, -2, false},
		{-1, 1, false}, {-1, 2, false}, {-1, 64, false}, {-1, 65, false}, {-1, 0, false}, {-64, 128, false},
		{0, math.MaxInt, false}, {1, math.MaxInt, false}, {63, math.MaxInt, false}, {64, math.MaxInt, false}, {0, math.MinInt, false}, {63, math.MinInt, false},
		{math.MaxInt, 1, false}, {math.MaxInt, 0, false}, {math.MaxInt, 64, false}, {math.MaxInt, math.MaxInt, false}, {math.MaxInt, math.MinInt, false},
		{math.MinInt, 1, false}, {math.MinInt, 0, false}, {math.MinInt, 64, false}, {math.MinInt, math.MaxInt, false}, {math.MinInt, math.MinInt, false},
	} {
		if got := impl.RegionsOk([]impl.Region{{From: c.from, Size: c.size}}); got != c.want {
			t.Errorf("RegionsOk of one from %d of %d = %v", c.from, c.size, got)
		}
		// A wrong one is found at every place of a list whose others are right, and which has room for it.
		if c.want {
			continue
		}
		for at := range 3 {
			list := slices.Insert([]impl.Region{{From: 20, Size: 1}, {From: 22, Size: 3}}, at, impl.Region{From: c.from, Size: c.size})
			if impl.RegionsOk(list) {
				t.Errorf("RegionsOk(%v)", list)
			}
		}
	}
}

func TestHowManyRegions(t *testing.T) {
	if impl.RegionsOk(nil) || impl.RegionsOk([]impl.Region{}) {
		t.Error("RegionsOk of none")
	}
	list := []impl.Region{{From: 40, Size: 24}, {From: 0, Size: 1}, {From: 1, Size: 30}, {From: 31, Size: 9}, {From: 31, Size: 0}}
	for n := 1; n <= 4; n++ {
		if !impl.RegionsOk(list[:n]) {
			t.Errorf("RegionsOk(%v) is false", list[:n])
		}
	}
	for n := 5; n <= 64; n++ {
		var many []impl.Region
		for from := range n {
			many = append(many, impl.Region{From: from, Size: 1})
		}
		if impl.RegionsOk(many) {
			t.Errorf("RegionsOk of %d", n)
		}
	}
}

func TestTwoRegions(t *testing.T) {
	for _, c := range []struct {
		one, two impl.Region
		want     bool
	}{
		{impl.Region{From: 0, Size: 2}, impl.Region{From: 2, Size: 1}, true},
		{impl.Region{From: 0, Size: 2}, impl.Region{From: 1, Size: 1}, false},
		{impl.Region{From: 0, Size: 2}, impl.Region{From: 1, Size: 5}, false},
		{impl.Region{From: 0, Size: 63}, impl.Region{From: 63, Size: 1}, true},
		{impl.Region{From: 0, Size: 64}, impl.Region{From: 63, Size: 1}, false},
		{impl.Region{From: 0, Size: 64}, impl.Region{From: 20, Size: 3}, false},
		{impl.Region{From: 0, Size: 64}, impl.Region{From: 0, Size: 1}, false},
		{impl.Region{From: 0, Size: 64}, impl.Region{From: 0, Size: 64}, false},
		{impl.Region{From: 7, Size: 1}, impl.Region{From: 7, Size: 1}, false},
		{impl.Region{From: 7, Size: 1}, impl.Region{From: 8, Size: 1}, true},
		{impl.Region{From: 7, Size: 1}, impl.Region{From: 9, Size: 55}, true},
		{impl.Region{From: 9, Size: 55}, impl.Region{From: 9, Size: 56}, false},
	} {
		if got, back := impl.RegionsOk([]impl.Region{c.one, c.two}), impl.RegionsOk([]impl.Region{c.two, c.one}); got != c.want || back != c.want {
			t.Errorf("RegionsOk of %v and %v = %v, the other way round %v", c.one, c.two, got, back)
		}
	}
}

// rightRegions counts the owners of each cell.
func rightRegions(list []impl.Region) bool {
	var owners [impl.Cells]int
	for _, r := range list {
		if r.From < 0 || r.Size < 1 || r.From > impl.Cells || r.Size > impl.Cells || r.From+r.Size > impl.Cells {
			return false
		}
		for at := range r.Size {
			owners[r.From+at]++
			if owners[r.From+at] > 1 {
				return false
			}
		}
	}
	return len(list) >= 1 && len(list) <= 4
}

func wantRegions(t *testing.T, list ...impl.Region) {
	t.Helper()
	given := slices.Clone(list)
	if got, want := impl.RegionsOk(list), rightRegions(list); got != want {
		t.Fatalf("RegionsOk(%v) = %v", list, got)
	}
	if !slices.Equal(given, list) {
		t.Fatalf("RegionsOk changed %v into %v", given, list)
	}
}

func TestEveryTwoOfSomeRegions(t *testing.T) {
	list := someRegions()
	for from := 58; from <= 65; from++ {
		for size := -1; size <= 8; size++ {
			list = append(list, impl.Region{From: from, Size: size})
		}
	}
	for _, one := range list {
		for _, two := range list {
			wantRegions(t, one, two)
		}
	}
}

// Any two of four are looked at, not only neighbours in the list.
func TestEveryFourOfSmallRegions(t *testing.T) {
	var list []impl.Region
	for from := range 5 {
		for size := 1; size <= 3; size++ {
			list = append(list, impl.Region{From: from, Size: size})
		}
	}
	for _, one := range list {
		for _, two := range list {
			for _, three := range list {
				wantRegions(t, one, two, three)
				for _, four := range list {
					wantRegions(t, one, two, three, four)
				}
			}
		}
	}
}

func TestLoadCellAtEdges(t *testing.T) {
	whole, _ := fenced(impl.Cells, 0)
	short, _ := fenced(6, 0)
	long, _ := fenced(impl.Cells+3, 0)
	const most, least = math.MaxInt, math.MinInt
	for _, c := range []struct {
		cells          []int
		from, size, at int
		want           int
		ok             bool
	}{
		{whole.Cells, 4, 2, -1, 0, false}, {whole.Cells, 4, 2, 0, 1028, true}, {whole.Cells, 4, 2, 1, 1035, true}, {whole.Cells, 4, 2, 2, 0, false},
		{whole.Cells, 0, 64, 63, 1441, true}, {whole.Cells, 0, 64, 64, 0, false}, {whole.Cells, 0, 65, 64, 0, false}, {whole.Cells, 60, 9, 3, 1441, true}, {whole.Cells, 60, 9, 4, 0, false},
		{short.Cells, 4, 5, 1, 1035, true}, {short.Cells, 4, 5, 2, 0, false}, {short.Cells, 4, 5, 4, 0, false}, {short.Cells, 6, 1, 0, 0, false}, {short.Cells, 7, 1, 0, 0, false}, {short.Cells, 7, 1, -1, 0, false},
		{long.Cells, 64, 3, 0, 1448, true}, {long.Cells, 64, 3, 2, 1462, true}, {long.Cells, 0, 67, 66, 1462, true}, {long.Cells, 64, 4, 3, 0, false}, {long.Cells, 64, 2, 2, 0, false},
		{nil, 0, 1, 0, 0, false}, {[]int{}, 0, 64, 0, 0, false}, {nil, 0, 0, 0, 0, false}, {nil, 0, most, most - 1, 0, false},
		{whole.Cells, -1, 2, 1, 0, false}, {whole.Cells, -1, 64, 5, 0, false}, {whole.Cells, -1, most, 1, 0, false}, {whole.Cells, least, most, most, 0, false}, {whole.Cells, least, least, 0, 0, false},
		{whole.Cells, 0, most, 0, 1000, true}, {whole.Cells, 5, most, 58, 1441, true}, {whole.Cells, 5, most, 59, 0, false}, {whole.Cells, 5, most, most - 1, 0, false}, {whole.Cells, 5, most, most, 0, false},
		{whole.Cells, most, most, 0, 0, false}, {whole.Cells, most, most, 1, 0, false}, {whole.Cells, most, 1, 0, 0, false}, {whole.Cells, most, most, most - 1, 0, false},
		{whole.Cells, 5, 0, 0, 0, false}, {whole.Cells, 5, -1, 0, 0, false}, {whole.Cells, 5, -1, -1, 0, false}, {whole.Cells, 5, -3, -2, 0, false}, {whole.Cells, 5, least, 0, 0, false}, {whole.Cells, 5, least, most, 0, false},
		// What stands in a cell is told as it stands there.
		{[]int{-3, most, least, impl.Word}, 0, 4, 0, -3, true}, {[]int{-3, most, least, impl.Word}, 1, 3, 0, most, true},
		{[]int{-3, most, least, impl.Word}, 1, 3, 1, least, true}, {[]int{-3, most, least, impl.Word}, 3, 1, 0, impl.Word, true},
	} {
		r := impl.Region{From: c.from, Size: c.size}
		if got, ok := impl.LoadCell(impl.Arena{Cells: c.cells}, r, c.at); got != c.want || ok != c.ok {
			t.Errorf("LoadCell of %d cells, %v, %d = %d, %v, want %d, %v", len(c.cells), r, c.at, got, ok, c.want, c.ok)
		}
	}
}

func TestLoadAndStoreOfEverySort(t *testing.T) {
	for _, size := range someArenas() {
		for _, r := range someRegions() {
			for _, at := range somePlaces(size, r) {
				wantLoadAndStore(t, size, r, at)
			}
		}
	}
}

func wantLoadAndStore(t *testing.T, size int, r impl.Region, at int) {
	t.Helper()
	a, memory := fenced(size, 4)
	given := slices.Clone(memory)
	want := slices.Clone(a.Cells)
	place, there := placeOf(size, r, at)
	loaded := 0
	if there {
		loaded = want[place]
		want[place] = 4321
	}
	if got, ok := impl.LoadCell(a, r, at); ok != there || got != loaded {
		t.Fatalf("LoadCell of %d cells, %v, %d = %d, %v, want %d, %v", size, r, at, got, ok, loaded, there)
	}
	after, ok := impl.StoreCell(a, r, at, 4321)
	if ok != there {
		t.Fatalf("StoreCell of %d cells, %v, %d = %v", size, r, at, ok)
	}
	wantCells(t, "StoreCell", after.Cells, want)
	if n, ok := impl.LoadCell(after, r, at); ok != there || (there && n != 4321) {
		t.Fatalf("StoreCell, then LoadCell of %d cells, %v, %d = %d, %v", size, r, at, n, ok)
	}
	wantApart(t, "StoreCell", memory, given, after.Cells)
}

// wantApart tells that what was given is as it was, also when the answer, and what is added to it, is written into.
func wantApart(t *testing.T, what string, memory []int, given []int, answer []int) {
	t.Helper()
	wantCells(t, what+", what was given", memory, given)
	fill(append(answer, 1, 2, 3), 5)
	fill(answer[:cap(answer)], 6)
	wantCells(t, what+", what was given, with the answer written into", memory, given)
}

func TestStoreCellStoresWords(t *testing.T) {
	if impl.Word != 65536 {
		t.Fatalf("Word = %d", impl.Word)
	}
	const most, least = math.MaxInt, math.MinInt
	r := impl.Region{From: 4, Size: 2}
	for _, c := range []struct{ n, want int }{
		{0, 0}, {1, 1}, {-1, 65535}, {-2, 65534}, {65535, 65535}, {65536, 0}, {65537, 1}, {-65535, 1}, {-65536, 0}, {-65537, 65535}, {32768, 32768}, {-32768, 32768},
		{131071, 65535}, {131072, 0}, {-131072, 0}, {-131073, 65535}, {most, 65535}, {most - 65535, 0}, {most - 1, 65534}, {least, 0}, {least + 1, 1}, {least + 65535, 65535}, {1 << 32, 0}, {-1 << 32, 0},
	} {
		for at := range 2 {
			a, ok := impl.StoreCell(impl.ArenaNew(), r, at, c.n)
			want := make([]int, impl.Cells)
			want[4+at] = c.want
			if !ok {
				t.Errorf("StoreCell of %d is false", c.n)
			}
			wantCells(t, "StoreCell", a.Cells, want)
			if n, ok := impl.LoadCell(a, r, at); !ok || n != c.want {
				t.Errorf("StoreCell of %d, then LoadCell = %d, %v, want %d", c.n, n, ok, c.want)
			}
		}
	}
	wide := new(big.Int).SetInt64(impl.Word)
	for _, n := range numbersToHold() {
		want := new(big.Int).Mod(big.NewInt(int64(n)), wide)
		a, ok := impl.StoreCell(impl.ArenaNew(), r, 1, n)
		if !ok || int64(a.Cells[5]) != want.Int64() {
			t.Errorf("StoreCell of %d: %d, %v, want %v", n, a.Cells[5], ok, want)
		}
	}
}

// No cell is taken for a word that was not stored: one that is none stays so.
func TestStoreCellLeavesOthersAsTheyStand(t *testing.T) {
	odd := []int{-3, math.MaxInt, math.MinInt, impl.Word, -impl.Word}
	for at := range odd {
		want := slices.Clone(odd)
		want[at] = 8
		a, ok := impl.StoreCell(impl.Arena{Cells: odd}, impl.Region{Size: 5}, at, 8)
		if !ok {
			t.Errorf("StoreCell at %d is false", at)
		}
		wantCells(t, "StoreCell", a.Cells, want)
	}
	for _, at := range []int{-1, 5, math.MaxInt, math.MinInt} {
		a, ok := impl.StoreCell(impl.Arena{Cells: odd}, impl.Region{Size: 5}, at, 8)
		if ok {
			t.Errorf("StoreCell at %d is true", at)
		}
		wantCells(t, "StoreCell that is false", a.Cells, odd)
	}
}

func unlikeRegions() []impl.Region {
	return []impl.Region{{From: 0, Size: 1}, {From: 1, Size: 40}, {From: 61, Size: 3}, {From: 44, Size: 17}}
}

// Every owner stores into all of its cells, and then finds its own there, whoever stored after it.
func TestOwnersDoNotDisturbOneAnother(t *testing.T) {
	regions := unlikeRegions()
	if !impl.RegionsOk(regions) {
		t.Fatal("RegionsOk of unlike regions")
	}
	a := impl.ArenaNew()
	want := make([]int, impl.Cells)
	for at := range 41 {
		for owner, r := range regions {
			var ok bool
			a, ok = impl.StoreCell(a, r, at, 100*owner+at)
			if ok != (at < r.Size) {
				t.Fatalf("StoreCell of %v, %d = %v", r, at, ok)
			}
			if ok {
				want[r.From+at] = 100*owner + at
			}
			wantCells(t, "StoreCell", a.Cells, want)
		}
	}
	for owner, r := range regions {
		var own []int
		for at := range r.Size {
			own = append(own, 100*owner+at)
			if n, ok := impl.LoadCell(a, r, at); !ok || n != 100*owner+at {
				t.Errorf("LoadCell of %v, %d = %d, %v", r, at, n, ok)
			}
		}
		wantCells(t, "CellsOf", impl.CellsOf(a, r), own)
	}
	for owner, r := range regions {
		a = impl.ClearCells(a, r)
		wantCells(t, "CellsOf what is cleared", impl.CellsOf(a, r), make([]int, r.Size))
		for other := owner + 1; other < len(regions); other++ {
			last := regions[other].Size - 1
			if n, ok := impl.LoadCell(a, regions[other], last); !ok || n != 100*other+last {
				t.Errorf("after ClearCells of %v, LoadCell of %v, %d = %d, %v", r, regions[other], last, n, ok)
			}
		}
	}
	wantCells(t, "ClearCells of all", a.Cells, make([]int, impl.Cells))
}

func TestCellsOfAndClearCells(t *testing.T) {
	const most, least = math.MaxInt, math.MinInt
	cells := []int{11, 12, 13, 14, 15}
	for _, c := range []struct {
		from, size int
		of, left   []int
	}{
		{0, 1, []int{11}, []int{0, 12, 13, 14, 15}}, {1, 2, []int{12, 13}, []int{11, 0, 0, 14, 15}}, {4, 1, []int{15}, []int{11, 12, 13, 14, 0}},
		{0, 5, cells, []int{0, 0, 0, 0, 0}}, {0, 6, cells, []int{0, 0, 0, 0, 0}}, {3, 2, []int{14, 15}, []int{11, 12, 13, 0, 0}}, {3, 3, []int{14, 15}, []int{11, 12, 13, 0, 0}},
		{4, 64, []int{15}, []int{11, 12, 13, 14, 0}}, {4, most, []int{15}, []int{11, 12, 13, 14, 0}}, {1, most, []int{12, 13, 14, 15}, []int{11, 0, 0, 0, 0}}, {0, most, cells, []int{0, 0, 0, 0, 0}},
		{5, 1, nil, cells}, {6, 1, nil, cells}, {64, 64, nil, cells}, {most, 1, nil, cells}, {most, most, nil, cells}, {most, -1, nil, cells}, {most, least, nil, cells},
		{-1, 3, nil, cells}, {-1, 6, nil, cells}, {-1, most, nil, cells}, {least, most, nil, cells}, {least, least, nil, cells}, {least, 1, nil, cells},
		{2, 0, nil, cells}, {2, -1, nil, cells}, {2, -2, nil, cells}, {5, -3, nil, cells}, {2, least, nil, cells}, {6, -2, nil, cells}, {6, -6, nil, cells},
	} {
		a, r := impl.Arena{Cells: cells}, impl.Region{From: c.from, Size: c.size}
		if got := impl.CellsOf(a, r); !slices.Equal(got, c.of) {
			t.Errorf("CellsOf %v = %v, want %v", r, got, c.of)
		}
		if got := impl.ClearCells(a, r); !slices.Equal(got.Cells, c.left) {
			t.Errorf("ClearCells of %v = %v, want %v", r, got.Cells, c.left)
		}
	}
	wantCells(t, "what was given", cells, []int{11, 12, 13, 14, 15})
}

func TestCellsOfAndClearCellsOfEverySort(t *testing.T) {
	for _, size := range someArenas() {
		for _, r := range someRegions() {
			a, memory := fenced(size, 5)
			given := slices.Clone(memory)
			left := slices.Clone(a.Cells)
			var own []int
			for _, place := range placesOf(size, r) {
				own = append(own, left[place])
				left[place] = 0
			}
			of := impl.CellsOf(a, r)
			wantCells(t, "CellsOf", of, own)
			cleared := impl.ClearCells(a, r)
			wantCells(t, "ClearCells", cleared.Cells, left)
			wantCells(t, "CellsOf what is cleared", impl.CellsOf(cleared, r), make([]int, len(own)))
			wantApart(t, "CellsOf", memory, given, of)
			wantApart(t, "ClearCells", memory, given, cleared.Cells)
		}
	}
}

func TestArenasOfNoCells(t *testing.T) {
	for _, cells := range [][]int{nil, {}, make([]int, 0, 9)} {
		a := impl.Arena{Cells: cells}
		for _, r := range someRegions() {
			stored, ok := impl.StoreCell(a, r, 0, 1)
			if ok || len(stored.Cells) != 0 || len(impl.CellsOf(a, r)) != 0 || len(impl.ClearCells(a, r).Cells) != 0 {
				t.Errorf("no cells, %v: something is told", r)
			}
		}
		if !slices.Equal(cells[:cap(cells)], make([]int, cap(cells))) {
			t.Errorf("the room of no cells is written into: %v", cells[:cap(cells)])
		}
	}
}
