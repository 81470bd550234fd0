package tests

import (
	"math"
	"math/big"
	"testing"

	"loop.example/g00200/impl"
)

// numbersToHold lie at the edges of what is held, at those of an int, and at factors whose product is at an edge.
func numbersToHold() []int {
	above := []int{
		1, 2, 3, 4, 7, 10, 255, 256, 65535, 65536, 999999, 1000000, 1000001, 999999999, 1000000000, 1000000001,
		impl.Big/7 - 1, impl.Big / 7, impl.Big/7 + 1, impl.Big / 3, impl.Big/3 + 1, impl.Big/2 - 1, impl.Big / 2, impl.Big/2 + 1,
		impl.Big - 1000000, impl.Big - 3, impl.Big - 2, impl.Big - 1, impl.Big, impl.Big + 1, impl.Big + 2, 2 * impl.Big, 1000 * impl.Big,
		math.MaxInt32, math.MaxInt32 + 1, math.MaxUint32, math.MaxUint32 + 1, 3037000499, 3037000500, 1 << 62, math.MaxInt - impl.Big,
		math.MaxInt - impl.Big + 1, math.MaxInt - 1, math.MaxInt,
	}
	out := []int{0, math.MinInt}
	for _, n := range above {
		out = append(out, n, -n)
	}
	return out
}

// held works without a highest number of its own, so that nothing goes round in it.
func held(n *big.Int) *big.Int {
	most := big.NewInt(impl.Big)
	least := new(big.Int).Neg(most)
	if n.Cmp(most) > 0 {
		return most
	}
	if n.Cmp(least) < 0 {
		return least
	}
	return n
}

func heldSum(a int, b int) int {
	x, y := held(big.NewInt(int64(a))), held(big.NewInt(int64(b)))
	return int(held(new(big.Int).Add(x, y)).Int64())
}

func heldProduct(a int, b int) int {
	x, y := held(big.NewInt(int64(a))), held(big.NewInt(int64(b)))
	return int(held(new(big.Int).Mul(x, y)).Int64())
}

func wantSat(t *testing.T, a int, b int) {
	t.Helper()
	if got, want := impl.AddSat(a, b), heldSum(a, b); got != want {
		t.Fatalf("AddSat(%d, %d) = %d, want %d", a, b, got, want)
	}
	if got, want := impl.MulSat(a, b), heldProduct(a, b); got != want {
		t.Fatalf("MulSat(%d, %d) = %d, want %d", a, b, got, want)
	}
}

func TestSumsThatStay(t *testing.T) {
	const most = impl.Big
	for _, c := range []struct{ a, b, want int }{
		{0, 0, 0}, {0, 1, 1}, {0, -1, -1}, {1, -1, 0}, {2, 3, 5}, {-2, -3, -5},
		{most, 0, most}, {most - 1, 1, most}, {most - 1, 0, most - 1}, {most, 1, most}, {most, most, most}, {most, -1, most - 1}, {most, -most, 0},
		{-most, 0, -most}, {1 - most, -1, -most}, {-most, -1, -most}, {-most, -most, -most}, {-most, 1, 1 - most},
		{most / 2, most / 2, most}, {most / 2, most/2 + 1, most}, {most/2 - 1, most / 2, most - 1},
		// What is beyond is taken into the bounds ahead of the sum.
		{most + 1, -1, most - 1}, {most + 5, -most - 7, 0}, {most + 1, -most, 0}, {-most - 1, 1, 1 - most}, {2 * most, -most / 2, most / 2},
		{math.MaxInt, 0, most}, {math.MaxInt, 1, most}, {math.MaxInt, math.MaxInt, most}, {math.MaxInt, -1, most - 1}, {math.MaxInt, -most, 0},
		{math.MinInt, 0, -most}, {math.MinInt, -1, -most}, {math.MinInt, math.MinInt, -most}, {math.MinInt, 1, 1 - most}, {math.MinInt, math.MaxInt, 0},
	} {
		if got, back := impl.AddSat(c.a, c.b), impl.AddSat(c.b, c.a); got != c.want || back != c.want {
			t.Errorf("AddSat(%d, %d) = %d, the other way round %d, want %d", c.a, c.b, got, back, c.want)
		}
	}
}

func TestProductsThatStay(t *testing.T) {
	const most = impl.Big
	for _, c := range []struct{ a, b, want int }{
		{0, 0, 0}, {0, 1, 0}, {0, -1, 0}, {1, 1, 1}, {1, -1, -1}, {-1, -1, 1}, {2, 3, 6}, {-2, 3, -6}, {-2, -3, 6},
		{most, 0, 0}, {-most, 0, 0}, {most, 1, most}, {most, -1, -most}, {-most, -1, most}, {-most, 1, -most},
		{most, 2, most}, {most, -2, -most}, {-most, -2, most}, {most, most, most}, {most, -most, -most}, {-most, -most, most},
		{1000000, 1000000, most}, {1000000, -1000000, -most}, {-1000000, -1000000, most}, {999999, 1000001, most - 1}, {-999999, 1000001, 1 - most},
		{1000001, 1000000, most}, {1000001, -1000000, -most}, {-1000001, -1000000, most}, {999999, 1000000, most - 1000000},
		{most / 2, 2, most}, {most/2 + 1, 2, most}, {most/2 - 1, 2, most - 2}, {most / 2, -2, -most}, {-most/2 - 1, 2, -most}, {-most/2 + 1, 2, 2 - most},
		{most - 1, 1, most - 1}, {most - 1, -1, 1 - most}, {101, 9901 * 999999, most - 1},
		// One beyond: 73 times 137 times 99990001 is Big and 1.
		{73, 137 * 99990001, most}, {-73, 137 * 99990001, -most}, {-73, -137 * 99990001, most},
		// These products pass what an int holds: left to go round they come back as 0, or with the other sign.
		{1 << 32, 1 << 32, most}, {-1 << 32, 1 << 32, -most}, {1 << 39, 1 << 39, most}, {3037000500, 3037000500, most}, {3037000500, -3037000500, -most},
		{math.MaxInt, math.MaxInt, most}, {math.MinInt, math.MinInt, most}, {math.MinInt, math.MaxInt, -most}, {math.MinInt, -1, most},
		{math.MinInt, 1, -most}, {math.MaxInt, -1, -most}, {math.MaxInt, 0, 0}, {math.MinInt, 0, 0}, {most + 1, 1, most}, {-most - 1, 1, -most}, {-most - 1, -1, most},
	} {
		if got, back := impl.MulSat(c.a, c.b), impl.MulSat(c.b, c.a); got != c.want || back != c.want {
			t.Errorf("MulSat(%d, %d) = %d, the other way round %d, want %d", c.a, c.b, got, back, c.want)
		}
	}
}

func TestNumbersThatStayAtAllEdges(t *testing.T) {
	list := numbersToHold()
	for _, a := range list {
		for _, b := range list {
			wantSat(t, a, b)
		}
	}
	for a := -60; a <= 60; a++ {
		for b := -60; b <= 60; b++ {
			wantSat(t, a, b)
		}
	}
}

func TestProductsAboutTheirBounds(t *testing.T) {
	for a := 1; a <= 3000; a++ {
		for b := impl.Big/a - 2; b <= impl.Big/a+2; b++ {
			wantSat(t, a, b)
			wantSat(t, -a, b)
			wantSat(t, b, -a)
			wantSat(t, -b, -a)
		}
	}
	for a := 999000; a <= 1001000; a++ {
		wantSat(t, a, impl.Big/a)
		wantSat(t, -a, impl.Big/a+1)
	}
}

func TestNumbersThatStayFromDrawnBits(t *testing.T) {
	n := uint64(9)
	draw := func() int {
		n = n*6364136223846793005 + 1442695040888963407
		return int(n) >> (n >> 58)
	}
	for range 100000 {
		wantSat(t, draw(), draw())
	}
}

func TestRateOk(t *testing.T) {
	for _, c := range []struct {
		r    impl.Rate
		want bool
	}{
		{impl.Rate{}, false}, {impl.Rate{Den: 1}, true}, {impl.Rate{Num: 2, Den: 3}, true}, {impl.Rate{Num: 3, Den: 2, Rest: 1}, true},
		{impl.Rate{Num: -1, Den: 1}, false}, {impl.Rate{Num: 1000000, Den: 1}, true}, {impl.Rate{Num: 1000001, Den: 1}, false},
		{impl.Rate{Num: 1, Den: 0}, false}, {impl.Rate{Num: 1, Den: -1}, false}, {impl.Rate{Num: 1, Den: 1000000}, true}, {impl.Rate{Num: 1, Den: 1000001}, false},
		{impl.Rate{Num: 1, Den: 5, Rest: -1}, false}, {impl.Rate{Num: 1, Den: 5, Rest: 4}, true}, {impl.Rate{Num: 1, Den: 5, Rest: 5}, false},
		{impl.Rate{Num: 1, Den: 1, Rest: 1}, false}, {impl.Rate{Den: 0, Rest: -1}, false}, {impl.Rate{Den: -3, Rest: -4}, false},
		{impl.Rate{Num: 1000000, Den: 1000000, Rest: 999999}, true}, {impl.Rate{Num: 1000000, Den: 1000000, Rest: 1000000}, false},
		{impl.Rate{Num: math.MaxInt, Den: 1}, false}, {impl.Rate{Num: math.MinInt, Den: 1}, false}, {impl.Rate{Den: math.MaxInt}, false},
		{impl.Rate{Den: math.MinInt}, false}, {impl.Rate{Den: math.MinInt, Rest: 5}, false}, {impl.Rate{Den: 9, Rest: math.MaxInt}, false}, {impl.Rate{Den: 9, Rest: math.MinInt}, false},
	} {
		if got := impl.RateOk(c.r); got != c.want {
			t.Errorf("RateOk(%+v) = %v", c.r, got)
		}
	}
}

// someRates has right rates and wrong ones, each edge of a field with each of the others.
func someRates() []impl.Rate {
	var out []impl.Rate
	nums := []int{math.MinInt, -1000000, -2, -1, 0, 1, 2, 3, 49, 50, 51, 999999, 1000000, 1000001, math.MaxInt}
	dens := []int{math.MinInt, -1000000, -2, -1, 0, 1, 2, 3, 50, 1000, 999983, 999999, 1000000, 1000001, math.MaxInt}
	for _, num := range nums {
		for _, den := range dens {
			for _, rest := range []int{math.MinInt, -1000000, -2, -1, 0, 1, den / 2, den - 2, den - 1, den, den + 1, 1000000, math.MaxInt} {
				out = append(out, impl.Rate{Num: num, Den: den, Rest: rest})
			}
		}
	}
	for den := -1; den <= 9; den++ {
		for num := -2; num <= 30; num++ {
			for rest := -2; rest <= den+2; rest++ {
				out = append(out, impl.Rate{Num: num, Den: den, Rest: rest})
			}
		}
	}
	return out
}

func isRightRate(r impl.Rate) bool {
	wrong := r.Num < 0 || r.Num > 1000000 || r.Den < 1 || r.Den > 1000000 || r.Rest < 0 || r.Rest >= r.Den
	return !wrong
}

// givenInAll takes all steps as one: what a right rate says, down, and the rest of it.
func givenInAll(r impl.Rate, steps int) (impl.Rate, int) {
	if !isRightRate(r) {
		return r, 0
	}
	all := r.Rest + steps*r.Num
	return impl.Rate{Num: r.Num, Den: r.Den, Rest: all % r.Den}, all / r.Den
}

func TestRateOkAtAllEdges(t *testing.T) {
	for _, r := range someRates() {
		if got := impl.RateOk(r); got != isRightRate(r) {
			t.Fatalf("RateOk(%+v) = %v", r, got)
		}
	}
}

func TestStepRate(t *testing.T) {
	for _, c := range []struct {
		r    impl.Rate
		rest int
		want int
	}{
		{impl.Rate{Num: 0, Den: 1}, 0, 0}, {impl.Rate{Num: 1, Den: 1}, 0, 1}, {impl.Rate{Num: 0, Den: 7, Rest: 6}, 6, 0},
		{impl.Rate{Num: 1, Den: 7, Rest: 5}, 6, 0}, {impl.Rate{Num: 1, Den: 7, Rest: 6}, 0, 1}, {impl.Rate{Num: 2, Den: 7, Rest: 6}, 1, 1},
		{impl.Rate{Num: 7, Den: 3, Rest: 2}, 0, 3}, {impl.Rate{Num: 1000000, Den: 1}, 0, 1000000},
		{impl.Rate{Num: 1000000, Den: 1000000, Rest: 999999}, 999999, 1}, {impl.Rate{Num: 1, Den: 1000000, Rest: 999999}, 0, 1},
		// Wrong ones: nothing is given, and nothing is mended.
		{impl.Rate{Num: -1, Den: 3, Rest: 2}, 2, 0}, {impl.Rate{Num: 1000001, Den: 3, Rest: 2}, 2, 0}, {impl.Rate{Num: 5}, 0, 0},
		{impl.Rate{Num: 5, Den: -2}, 0, 0}, {impl.Rate{Num: 5, Den: 1000001}, 0, 0}, {impl.Rate{Num: 5, Den: 2, Rest: -1}, -1, 0},
		{impl.Rate{Num: 5, Den: 2, Rest: 2}, 2, 0}, {impl.Rate{Num: 5, Den: 2, Rest: math.MinInt}, math.MinInt, 0}, {impl.Rate{Num: 5, Den: 2, Rest: math.MaxInt}, math.MaxInt, 0},
	} {
		got, n := impl.StepRate(c.r)
		if want := (impl.Rate{Num: c.r.Num, Den: c.r.Den, Rest: c.rest}); got != want || n != c.want {
			t.Errorf("StepRate(%+v) = %+v, %d, want %+v, %d", c.r, got, n, want, c.want)
		}
	}
}

func TestStepRateAtAllEdges(t *testing.T) {
	for _, r := range someRates() {
		got, n := impl.StepRate(r)
		if want, all := givenInAll(r, 1); got != want || n != all {
			t.Fatalf("StepRate(%+v) = %+v, %d, want %+v, %d", r, got, n, want, all)
		}
		if impl.RateOk(r) && (!impl.RateOk(got) || n*r.Den+got.Rest != r.Rest+r.Num) {
			t.Fatalf("StepRate(%+v) = %+v, %d: what is given and what is left are not all", r, got, n)
		}
	}
}

func TestRunRateGivesInAllWhatItSays(t *testing.T) {
	for _, c := range []struct{ n, steps int }{
		{math.MinInt, 0}, {-1000, 0}, {-1, 0}, {0, 0}, {1, 1}, {2, 2}, {3, 3}, {7, 7}, {999, 999}, {1000, 1000},
		{1001, 1000}, {1002, 1000}, {2000, 1000}, {1 << 32, 1000}, {1<<32 + 5, 1000}, {math.MaxInt, 1000},
	} {
		for _, r := range someRates() {
			got, n := impl.RunRate(r, c.n)
			if want, all := givenInAll(r, c.steps); got != want || n != all {
				t.Fatalf("RunRate(%+v, %d) = %+v, %d, want %+v, %d", r, c.n, got, n, want, all)
			}
		}
	}
	if got, n := impl.RunRate(impl.Rate{Num: 1000000, Den: 1}, 1000); got != (impl.Rate{Num: 1000000, Den: 1}) || n != 1000000000 {
		t.Errorf("the largest rate gave %d, %+v", n, got)
	}
}

func TestRunRateStepByStep(t *testing.T) {
	for _, r := range []impl.Rate{
		{Num: 2, Den: 3}, {Num: 1, Den: 50, Rest: 49}, {Num: 7, Den: 3, Rest: 2}, {Num: 999983, Den: 1000000}, {Num: 1000000, Den: 999983, Rest: 999982},
		{Num: 0, Den: 4, Rest: 3}, {Num: 4, Den: 4, Rest: -1}, {Num: 4, Den: 0}, {Num: -4, Den: 4},
	} {
		stepped, sum := r, 0
		for n := 0; n <= 1000; n++ {
			got, all := impl.RunRate(r, n)
			if got != stepped || all != sum {
				t.Fatalf("RunRate(%+v, %d) = %+v, %d, by steps %+v, %d", r, n, got, all, stepped, sum)
			}
			one := 0
			stepped, one = impl.StepRate(stepped)
			sum += one
		}
	}
}

func TestRunRateInTwoParts(t *testing.T) {
	for _, r := range []impl.Rate{
		{Num: 2, Den: 3}, {Num: 1, Den: 50}, {Num: 17, Den: 13, Rest: 12}, {Num: 999999, Den: 1000000, Rest: 1}, {Num: 3, Den: 7, Rest: 7},
	} {
		for _, n := range []int{0, 1, 2, 99, 500, 1000} {
			want, all := impl.RunRate(r, n)
			for cut := 0; cut <= n; cut++ {
				half, first := impl.RunRate(r, cut)
				got, second := impl.RunRate(half, n-cut)
				if got != want || first+second != all {
					t.Fatalf("%+v, %d steps cut at %d: %+v, %d and %d, want %+v, %d", r, n, cut, got, first, second, want, all)
				}
			}
		}
	}
}
