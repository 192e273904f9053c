package tests

import (
	"math"
	"math/rand"
	"testing"

	"loop.example/s02974/impl"
)

func TestTaiOfKnownClocks(t *testing.T) {
	for _, c := range []struct {
		now  int
		want string
	}{
		{0, "400000000000000a00000000"},
		{1, "400000000000000a00000001"},
		{256, "400000000000000a00000100"},
		{999999999, "400000000000000a3b9ac9ff"},
		{1000000000, "400000000000000b00000000"},
		{1000000001, "400000000000000b00000001"},
		{1999999999, "400000000000000b3b9ac9ff"},
		{245*1000000000 + 5, "40000000000000ff00000005"},
		{246 * 1000000000, "400000000000010000000000"},
		{math.MaxInt, "4000000225c17d0e32f2d7ff"},
		{math.MaxInt - 1, "4000000225c17d0e32f2d7fe"},
		{-1, "400000000000000a00000000"},
		{-1000000000, "400000000000000a00000000"},
		{-12345678901, "400000000000000a00000000"},
		{math.MinInt, "400000000000000a00000000"},
	} {
		got := impl.TaiOf(c.now)
		wantHex(t, got[:], c.want, "the stamp at %d", c.now)
	}
}

// checkOrder wants the stamps to stand as the clocks do; clocks below 0 count as 0.
func checkOrder(t *testing.T, a, b int) {
	t.Helper()
	less := max(a, 0) < max(b, 0)
	if got := impl.TaiLess(impl.TaiOf(a), impl.TaiOf(b)); got != less {
		t.Errorf("%d and %d: the stamps' order is %v", a, b, got)
	}
}

func TestTaiKeepsTheOrderOfClocks(t *testing.T) {
	clocks := []int{math.MinInt, -1, 0, 1, 255, 256, 65535, 65536, 1<<24 - 1, 1 << 24, 999999998, 999999999, 1000000000,
		1000000001, 1999999999, 2000000000, 245999999999, 246000000000, 1 << 40, 1 << 50, 1 << 62, math.MaxInt - 1, math.MaxInt}
	for _, a := range clocks {
		for _, b := range clocks {
			checkOrder(t, a, b)
		}
	}
	r := rand.New(rand.NewSource(9))
	for range 2000 {
		a := r.Int() >> r.Intn(63)
		checkOrder(t, a, r.Int()>>r.Intn(63))
		checkOrder(t, a, a+1)
		checkOrder(t, a+1, a)
		checkOrder(t, a, a-a%1000000000)
	}
}

func checkLess(t *testing.T, a, b [12]byte, want bool) {
	t.Helper()
	if got := impl.TaiLess(a, b); got != want {
		t.Errorf("%x before %x: %v", a, b, got)
	}
}

func TestTaiLessByBytes(t *testing.T) {
	zeros, ones, some := [12]byte{}, [12]byte(repeated(0xFF, 12)), [12]byte(filled(12))
	for _, same := range [][12]byte{zeros, ones, some} {
		checkLess(t, same, same, false)
	}
	checkLess(t, zeros, ones, true)
	checkLess(t, ones, zeros, false)
	for place := range 12 {
		more := some
		more[place]++
		checkLess(t, some, more, true)
		checkLess(t, more, some, false)
		low, high := some, some
		low[place], high[place] = 0x7F, 0x80
		checkLess(t, low, high, true)
		checkLess(t, high, low, false)
		for behind := place + 1; behind < 12; behind++ {
			low[behind], high[behind] = 0xFF, 0
		}
		checkLess(t, low, high, true)
		checkLess(t, high, low, false)
	}
}
