package tests

import (
	"math"
	"math/big"
	"math/rand"
	"testing"

	"loop.example/s02974/impl"
)

// plainValid says what a valid table is, pair by pair.
func plainValid(l impl.Limiter, now int) bool {
	if now < 0 || l.Most < 1 || l.Most > 4096 || len(l.Buckets) > l.Most || l.Swept < 0 || l.Swept > now {
		return false
	}
	for i, b := range l.Buckets {
		if b.Tokens < 0 || b.Tokens > 250000000 || b.Last < 0 || b.Last > now {
			return false
		}
		for _, other := range l.Buckets[:i] {
			if other.Key == b.Key {
				return false
			}
		}
	}
	return true
}

// plainAllow is the document's words over a list, with sums of big numbers.
func plainAllow(l impl.Limiter, key [9]byte, now int) (impl.Limiter, bool) {
	if !plainValid(l, now) {
		return impl.Limiter{}, false
	}
	out := impl.Limiter{Most: l.Most, Swept: l.Swept}
	sweeping := now-l.Swept > 1000000000
	if sweeping {
		out.Swept = now
	}
	for _, b := range l.Buckets {
		if !sweeping || now-b.Last <= 1000000000 {
			out.Buckets = append(out.Buckets, b)
		}
	}
	for i := range out.Buckets {
		b := &out.Buckets[i]
		if b.Key != key {
			continue
		}
		sum := new(big.Int).Add(big.NewInt(int64(b.Tokens)), big.NewInt(int64(now-b.Last)))
		b.Tokens, b.Last = 250000000, now
		if sum.Cmp(big.NewInt(250000000)) < 0 {
			b.Tokens = int(sum.Int64())
		}
		if b.Tokens < 50000000 {
			return out, false
		}
		b.Tokens -= 50000000
		return out, true
	}
	if len(out.Buckets) == l.Most {
		return out, false
	}
	out.Buckets = append(out.Buckets, impl.Bucket{Key: key, Tokens: 200000000, Last: now})
	return out, true
}

// pickNear picks one of the values, or one beside it.
func pickNear(r *rand.Rand, values ...int) int {
	return values[r.Intn(len(values))] + r.Intn(3) - 1
}

// Tables of few keys, valid or just not, at times about every bound that the document names.
func TestAllowAgainstTheWords(t *testing.T) {
	r := rand.New(rand.NewSource(2))
	allowed, refused, invalid := 0, 0, 0
	for range 60000 {
		now := pickNear(r, 1, idle, 2*idle, 3*idle+7, 1<<40, math.MaxInt-1)
		l := limiter(1+r.Intn(5), max(0, pickNear(r, 1, now-1, now-idle, now-idle-1)))
		for n := range r.Intn(6) {
			key := numberedKey(n)
			if r.Intn(40) == 0 {
				key = numberedKey(r.Intn(6))
			}
			last := max(0, pickNear(r, 1, now-1, now-idle, now-cost, now-most))
			l.Buckets = append(l.Buckets, impl.Bucket{Key: key, Tokens: max(0, pickNear(r, 1, cost, cost-30, most-1, most-cost)), Last: last})
		}
		r.Shuffle(len(l.Buckets), func(i, j int) { l.Buckets[i], l.Buckets[j] = l.Buckets[j], l.Buckets[i] })
		key := numberedKey(r.Intn(6))
		want, wantOk := plainAllow(l, key, now)
		wantAllow(t, "at random", l, key, now, want, wantOk)
		switch {
		case wantOk:
			allowed++
		case want.Most > 0:
			refused++
		default:
			invalid++
		}
	}
	if allowed < 5000 || refused < 5000 || invalid < 5000 {
		t.Errorf("the tables are too much alike: %d %d %d", allowed, refused, invalid)
	}
}

// holdRate wants at most 5 + T / TokenCost of the times in every stretch of T that begins and ends at one of them.
func holdRate(t *testing.T, what string, times []int) {
	t.Helper()
	for i, from := range times {
		for n, to := range times[i:] {
			if n+1 > 5+(to-from)/cost {
				t.Fatalf("%s: %d were allowed from %d to %d", what, n+1, from, to)
			}
		}
	}
}

// run asks again and again from an empty table, each time on the table before, and gives the times allowed by key.
func run(t *testing.T, r *rand.Rand, size, keys, calls int, steps ...int) [][]int {
	t.Helper()
	l := impl.Limiter{Most: size}
	times := make([][]int, keys)
	now := 0
	for range calls {
		now += steps[r.Intn(len(steps))]
		n := r.Intn(keys)
		want, wantOk := plainAllow(l, numberedKey(n), now)
		got, ok := impl.Allow(l, numberedKey(n), now)
		if ok != wantOk || !sameLimiter(got, want) {
			t.Fatalf("at %d: got %v %v, want %v %v", now, got, ok, want, wantOk)
		}
		if ok {
			times[n] = append(times[n], now)
		}
		l = got
	}
	return times
}

func TestAllowKeepsTheRate(t *testing.T) {
	r := rand.New(rand.NewSource(3))
	for _, c := range []struct {
		what             string
		size, keys, call int
		steps            []int
	}{
		{"one key at once", 1, 1, 50, []int{0}},
		{"one key", 1, 1, 1500, []int{0, 1, cost / 3, cost - 1, cost, cost + 1}},
		{"one key at twice the rate", 1, 1, 1500, []int{cost / 2}},
		{"one key with rests", 1, 1, 1500, []int{0, 0, 0, cost / 2, most, idle, idle + 1}},
		{"some keys", 8, 5, 3000, []int{0, 1, cost / 7, cost / 3}},
		{"a full table", 2, 6, 3000, []int{0, cost / 7, cost / 3, cost, most}},
		{"a full table, swept often", 2, 6, 3000, []int{0, 0, cost / 3, idle / 2, idle, idle + 1}},
		{"a table for one", 1, 3, 3000, []int{0, 0, 0, cost / 2, idle, idle + 1}},
	} {
		for _, times := range run(t, r, c.size, c.keys, c.call, c.steps...) {
			if len(times) == 0 {
				t.Errorf("%s: a key was never allowed", c.what)
			}
			holdRate(t, c.what, times)
		}
	}
}

// The bound is met: five at once, and then one for every TokenCost.
func TestAllowGivesTheRate(t *testing.T) {
	l := limiter(1, 0)
	allowed := 0
	for step := range 400 {
		now := step * cost / 4
		var ok bool
		l, ok = impl.Allow(l, keyA, now)
		if ok {
			allowed++
		}
		if want := min(step+1, 5+now/cost); allowed != want {
			t.Fatalf("step %d: %d allowed, want %d", step, allowed, want)
		}
	}
}
