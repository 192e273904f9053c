package tests

import (
	"math"
	"math/rand"
	"slices"
	"testing"

	"loop.example/s02974/impl"
)

const (
	cost = impl.TokenCost
	most = impl.TokenMost
	idle = impl.IdleTime
)

var keyA, keyB, keyC, keyD = [9]byte{4, 1}, [9]byte{4, 2}, [9]byte{4, 3}, [9]byte{6, 1}

func numberedKey(n int) [9]byte {
	return [9]byte{6, byte(n), byte(n >> 8)}
}

func sameLimiter(a, b impl.Limiter) bool {
	return a.Most == b.Most && a.Swept == b.Swept && slices.Equal(a.Buckets, b.Buckets)
}

func cloned(l impl.Limiter) impl.Limiter {
	l.Buckets = slices.Clone(l.Buckets)
	return l
}

// limiter is a table of those buckets.
func limiter(size, swept int, buckets ...impl.Bucket) impl.Limiter {
	return impl.Limiter{Most: size, Swept: swept, Buckets: buckets}
}

// allow asks with room behind the buckets, and wants neither buckets nor room to be written into, nor to be shared.
func allow(t *testing.T, l impl.Limiter, key [9]byte, now int) (impl.Limiter, bool) {
	t.Helper()
	whole := append(slices.Clone(l.Buckets), impl.Bucket{Key: keyA, Tokens: 77, Last: 77}, impl.Bucket{Tokens: 78})
	before := slices.Clone(whole)
	l.Buckets = whole[:len(l.Buckets)]
	got, ok := impl.Allow(l, key, now)
	if !slices.Equal(whole, before) {
		t.Errorf("the table was written into: %v", whole)
	}
	kept := cloned(got)
	for i := range whole {
		whole[i] = impl.Bucket{Key: [9]byte{9, 9, 9}, Tokens: -9, Last: -9}
	}
	if !sameLimiter(got, kept) {
		t.Errorf("the answer shares memory with the table")
	}
	return got, ok
}

func wantAllow(t *testing.T, what string, l impl.Limiter, key [9]byte, now int, want impl.Limiter, wantOk bool) {
	t.Helper()
	got, ok := allow(t, l, key, now)
	if !sameLimiter(got, want) || ok != wantOk {
		t.Errorf("%s: got %v %v, want %v %v", what, got, ok, want, wantOk)
	}
}

func TestLimitsOfTheLimiter(t *testing.T) {
	for _, c := range []struct{ got, want int }{
		{impl.MaxEntries, 4096}, {impl.TokenCost, 50000000}, {impl.TokenMost, 250000000},
		{impl.IdleTime, 1000000000}, {impl.SecretAge, 120000000000},
	} {
		if c.got != c.want {
			t.Errorf("got %d, want %d", c.got, c.want)
		}
	}
}

// manyBuckets are n buckets with keys of their own, all as if used at last.
func manyBuckets(n, last int) []impl.Bucket {
	var out []impl.Bucket
	for i := range n {
		out = append(out, impl.Bucket{Key: numberedKey(i), Tokens: i, Last: last})
	}
	return out
}

// Every table here is wrong in one way alone, at a time at which it would be swept and at one at which it wouldn't.
func TestAllowOfTablesThatAreNotValid(t *testing.T) {
	now := 3*idle + 10
	good := impl.Bucket{Key: keyA, Tokens: 5, Last: 7}
	for _, swept := range []int{0, now} {
		for _, c := range []struct {
			what string
			in   impl.Limiter
		}{
			{"most of 0", limiter(0, swept)},
			{"most of -1", limiter(-1, swept)},
			{"the least most", limiter(math.MinInt, swept)},
			{"most of more than MaxEntries", limiter(impl.MaxEntries+1, swept, good)},
			{"the greatest most", limiter(math.MaxInt, swept, good)},
			{"more than most buckets", limiter(1, swept, good, impl.Bucket{Key: keyB})},
			{"more than MaxEntries buckets", limiter(impl.MaxEntries, swept, manyBuckets(impl.MaxEntries+1, 0)...)},
			{"a key twice", limiter(4, swept, good, impl.Bucket{Key: keyB}, good)},
			{"a key twice with other numbers", limiter(4, swept, good, impl.Bucket{Key: keyA, Last: now})},
			{"the key that is asked for twice", limiter(4, swept, impl.Bucket{Key: keyC}, impl.Bucket{Key: keyC, Tokens: most})},
			{"tokens of -1", limiter(4, swept, impl.Bucket{Key: keyA, Tokens: -1})},
			{"the least tokens", limiter(4, swept, impl.Bucket{Key: keyA, Tokens: math.MinInt})},
			{"tokens above the most", limiter(4, swept, impl.Bucket{Key: keyA, Tokens: most + 1})},
			{"the greatest tokens", limiter(4, swept, impl.Bucket{Key: keyA, Tokens: math.MaxInt})},
			{"a last of -1", limiter(4, swept, impl.Bucket{Key: keyA, Last: -1})},
			{"the least last", limiter(4, swept, impl.Bucket{Key: keyA, Last: math.MinInt})},
			{"a last later than now", limiter(4, swept, impl.Bucket{Key: keyA, Last: now + 1})},
			{"the greatest last", limiter(4, swept, impl.Bucket{Key: keyA, Last: math.MaxInt})},
			{"the second bucket", limiter(4, swept, good, impl.Bucket{Key: keyB, Tokens: -1})},
			{"the last bucket", limiter(4, swept, good, impl.Bucket{Key: keyB}, impl.Bucket{Key: keyC, Last: now + 1})},
			{"swept of -1", limiter(4, -1, good)},
			{"the least swept", limiter(4, math.MinInt, good)},
			{"swept later than now", limiter(4, now+1, good)},
			{"the greatest swept", limiter(4, math.MaxInt, good)},
		} {
			wantAllow(t, c.what, c.in, keyC, now, impl.Limiter{}, false)
			wantAllow(t, c.what+", a known key", c.in, keyA, now, impl.Limiter{}, false)
		}
	}
}

func TestAllowAtTimesBelowZero(t *testing.T) {
	for _, now := range []int{-1, -idle, -idle - 1, math.MinInt, math.MinInt + 1} {
		wantAllow(t, "an empty table", limiter(4, 0), keyA, now, impl.Limiter{}, false)
		wantAllow(t, "swept at that time", limiter(4, now), keyA, now, impl.Limiter{}, false)
		b := impl.Bucket{Key: keyA, Tokens: most, Last: now}
		wantAllow(t, "used at that time", limiter(4, now, b), keyA, now, impl.Limiter{}, false)
		wantAllow(t, "swept ahead of it", limiter(4, math.MinInt, b), keyA, now, impl.Limiter{}, false)
	}
}

// What is just still valid.
func TestAllowAtTheEdgesOfValidity(t *testing.T) {
	fresh := impl.Bucket{Key: keyC, Tokens: most - cost}
	wantAllow(t, "an empty table at 0", limiter(1, 0), keyC, 0, limiter(1, 0, fresh), true)
	wantAllow(t, "no tokens", limiter(1, 0, impl.Bucket{Key: keyC}), keyC, 0, limiter(1, 0, impl.Bucket{Key: keyC}), false)
	full := impl.Bucket{Key: keyC, Tokens: most}
	wantAllow(t, "all tokens", limiter(1, 0, full), keyC, 0, limiter(1, 0, fresh), true)
	fresh.Last, full.Last = 9, 9
	wantAllow(t, "all of now", limiter(1, 9, full), keyC, 9, limiter(1, 9, fresh), true)
	all := manyBuckets(impl.MaxEntries, 9)
	wantAllow(t, "MaxEntries buckets", limiter(impl.MaxEntries, 9, all...), keyA, 9, limiter(impl.MaxEntries, 9, all...), false)
	behind := append(slices.Clone(all[1:]), fresh)
	wantAllow(t, "one bucket less", limiter(impl.MaxEntries, 9, all[1:]...), keyC, 9, limiter(impl.MaxEntries, 9, behind...), true)
	wantAllow(t, "nil buckets", impl.Limiter{Most: 1, Swept: 9}, keyC, 9, limiter(1, 9, fresh), true)
}

// Keys differ in each of their bytes.
func TestAllowKnowsAllBytesOfAKey(t *testing.T) {
	key := [9]byte(filled(9))
	l := limiter(20, 0, impl.Bucket{Key: key, Tokens: 1})
	for i := range key {
		other := key
		other[i] ^= 0x80
		want := cloned(l)
		want.Buckets = append(want.Buckets, impl.Bucket{Key: other, Tokens: most - cost, Last: 3})
		wantAllow(t, "another key", l, other, 3, want, true)
		l = want
	}
}

func TestAllowSweepsOnlyWhenItIsTime(t *testing.T) {
	now := 10 * idle
	old := impl.Bucket{Key: keyA, Tokens: 5, Last: now - idle - 1}
	young := impl.Bucket{Key: keyB, Tokens: 6, Last: now - idle}
	older := impl.Bucket{Key: keyD, Tokens: 7}
	fresh := impl.Bucket{Key: keyC, Tokens: most - cost, Last: now}
	before := []impl.Bucket{older, young, old}
	for _, swept := range []int{now, now - 1, now - idle + 1, now - idle} {
		wantAllow(t, "not yet", limiter(4, swept, before...), keyC, now, limiter(4, swept, older, young, old, fresh), true)
		wantAllow(t, "not yet, full", limiter(3, swept, before...), keyC, now, limiter(3, swept, before...), false)
	}
	for _, swept := range []int{0, 1, now - idle - 2, now - idle - 1} {
		wantAllow(t, "swept", limiter(4, swept, before...), keyC, now, limiter(4, now, young, fresh), true)
		wantAllow(t, "swept, room made", limiter(3, swept, before...), keyC, now, limiter(3, now, young, fresh), true)
		wantAllow(t, "swept, nothing idle", limiter(1, swept, young), keyC, now, limiter(1, now, young), false)
		wantAllow(t, "swept, nothing there", limiter(1, swept), keyC, now, limiter(1, now, fresh), true)
	}
}

// The bucket of the key itself: not swept it stays in its place, swept it is a new one at the end.
func TestAllowOfAKeyThatIsIdle(t *testing.T) {
	now := 10 * idle
	other := impl.Bucket{Key: keyB, Tokens: 6, Last: now - 1}
	last := impl.Bucket{Key: keyA, Tokens: most - cost, Last: now}
	for _, tokens := range []int{0, cost, most} {
		just := impl.Bucket{Key: keyA, Tokens: tokens, Last: now - idle}
		more := impl.Bucket{Key: keyA, Tokens: tokens, Last: now - idle - 1}
		still, swept := now-idle, now-idle-1
		wantAllow(t, "just idle", limiter(2, still, just, other), keyA, now, limiter(2, still, last, other), true)
		wantAllow(t, "longer, not swept", limiter(2, still, more, other), keyA, now, limiter(2, still, last, other), true)
		wantAllow(t, "just, swept", limiter(2, swept, just, other), keyA, now, limiter(2, now, last, other), true)
		wantAllow(t, "longer, swept", limiter(2, swept, more, other), keyA, now, limiter(2, now, other, last), true)
	}
}

// Those that stay keep their order when those before, between and behind them go.
func TestAllowKeepsTheOrder(t *testing.T) {
	now := 10 * idle
	r := rand.New(rand.NewSource(1))
	for range 300 {
		var before, stay []impl.Bucket
		for _, n := range r.Perm(40) {
			b := impl.Bucket{Key: numberedKey(n), Tokens: n, Last: now - idle - r.Intn(2)}
			before = append(before, b)
			if b.Last == now-idle {
				stay = append(stay, b)
			}
		}
		want := append(stay, impl.Bucket{Key: keyC, Tokens: most - cost, Last: now})
		wantAllow(t, "the order", limiter(40, 5, before...), keyC, now, limiter(40, now, want...), true)
	}
}

func TestAllowCountsTokens(t *testing.T) {
	for _, c := range []struct {
		what              string
		tokens, last, now int
		left              int
		ok                bool
	}{
		{"just the cost", cost, 5, 5, 0, true},
		{"one less", cost - 1, 5, 5, cost - 1, false},
		{"just the cost by waiting", cost - 30, 5, 35, 0, true},
		{"one less by waiting", cost - 30, 5, 34, cost - 1, false},
		{"one more by waiting", cost - 30, 5, 36, 1, true},
		{"the cost by waiting alone", 0, 5, cost + 5, 0, true},
		{"one less by waiting alone", 0, 5, cost + 4, cost - 1, false},
		{"nothing", 0, 5, 5, 0, false},
		{"just the most", most - 10, 5, 15, most - cost, true},
		{"one below the most", most - 10, 5, 14, most - cost - 1, true},
		{"one above the most", most - 10, 5, 16, most - cost, true},
		{"the most by waiting alone", 0, 5, most + 5, most - cost, true},
		{"one less than the most by waiting alone", 0, 5, most + 4, most - cost - 1, true},
		{"the most and waiting", most, 5, idle, most - cost, true},
	} {
		b := impl.Bucket{Key: keyA, Tokens: c.tokens, Last: c.last}
		want := impl.Bucket{Key: keyA, Tokens: c.left, Last: c.now}
		others := []impl.Bucket{{Key: keyB, Tokens: 3, Last: 1}, {Key: keyC, Tokens: 4, Last: 2}}
		wantAllow(t, c.what, limiter(1, 0, b), keyA, c.now, limiter(1, 0, want), c.ok)
		wantAllow(t, c.what+", between others", limiter(3, 0, others[0], b, others[1]), keyA, c.now,
			limiter(3, 0, others[0], want, others[1]), c.ok)
	}
}

// Sums of tokens and of the time that went by pass the greatest int here.
func TestAllowOfBucketsIdleForVeryLong(t *testing.T) {
	for _, now := range []int{math.MaxInt, math.MaxInt - 1, math.MaxInt - most, math.MaxInt - most + 1, math.MaxInt - cost, 1 << 62} {
		last := impl.Bucket{Key: keyA, Tokens: most - cost, Last: now}
		for _, tokens := range []int{0, 1, cost - 1, cost, most - 1, most} {
			b := impl.Bucket{Key: keyA, Tokens: tokens}
			full := impl.Bucket{Key: keyB, Tokens: tokens, Last: now}
			wantAllow(t, "not swept", limiter(1, now, b), keyA, now, limiter(1, now, last), true)
			wantAllow(t, "not swept, others", limiter(2, now-idle, full, b), keyA, now, limiter(2, now-idle, full, last), true)
			wantAllow(t, "swept", limiter(2, 0, b, full), keyA, now, limiter(2, now, full, last), true)
			wantAllow(t, "swept for another", limiter(1, now-idle-1, b), keyC, now,
				limiter(1, now, impl.Bucket{Key: keyC, Tokens: most - cost, Last: now}), true)
			wantAllow(t, "not swept for another", limiter(1, now-idle, b), keyC, now, limiter(1, now-idle, b), false)
		}
	}
}

func TestAllowOfAFullTable(t *testing.T) {
	a, b := impl.Bucket{Key: keyA, Tokens: cost, Last: 5}, impl.Bucket{Key: keyB, Tokens: 1, Last: 6}
	full := limiter(2, 3, a, b)
	wantAllow(t, "a new key", full, keyC, 7, full, false)
	wantAllow(t, "a known key", full, keyA, 7, limiter(2, 3, impl.Bucket{Key: keyA, Tokens: 2, Last: 7}, b), true)
	wantAllow(t, "a known key without tokens", full, keyB, 7, limiter(2, 3, a, impl.Bucket{Key: keyB, Tokens: 2, Last: 7}), false)
	fresh := impl.Bucket{Key: keyC, Tokens: most - cost, Last: 7}
	wantAllow(t, "room for one", limiter(3, 3, a, b), keyC, 7, limiter(3, 3, a, b, fresh), true)
}

// A table of the greatest size, filled call by call, swept as a whole but for one.
func TestAllowOfTheGreatestTable(t *testing.T) {
	l := limiter(impl.MaxEntries, 0, manyBuckets(impl.MaxEntries-2, 0)...)
	for i := impl.MaxEntries - 2; i < impl.MaxEntries+2; i++ {
		var ok bool
		if l, ok = allow(t, l, numberedKey(i), i); ok != (i < impl.MaxEntries) {
			t.Errorf("number %d: %v", i, ok)
		}
	}
	for i, b := range l.Buckets {
		if b.Key != numberedKey(i) {
			t.Fatalf("place %d has %v", i, b)
		}
	}
	now := idle + impl.MaxEntries - 1
	fresh := impl.Bucket{Key: numberedKey(0), Tokens: most - cost, Last: now}
	wantAllow(t, "swept", l, numberedKey(0), now, limiter(impl.MaxEntries, now, l.Buckets[impl.MaxEntries-1], fresh), true)
}
