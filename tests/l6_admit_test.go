package tests

import (
	"bytes"
	"math"
	"math/big"
	"math/rand"
	"testing"

	"loop.example/s02974/impl"
)

const gap = 50000000

func TestFloodGap(t *testing.T) {
	if impl.FloodGap != gap {
		t.Errorf("FloodGap is %d", impl.FloodGap)
	}
}

// plainAdmit is the document's words; the difference is a big number's, which can't wrap.
func plainAdmit(p impl.Peer, stamp [12]byte, now int) (impl.Peer, int) {
	past := new(big.Int).Sub(big.NewInt(int64(now)), big.NewInt(int64(p.Last)))
	switch {
	case p.Seen && bytes.Compare(p.Stamp[:], stamp[:]) >= 0:
		return p, impl.Replayed
	case p.Seen && !(p.Last >= 0 && p.Last <= now && past.Cmp(big.NewInt(gap)) >= 0):
		return p, impl.Flooded
	}
	return impl.Peer{Seen: true, Stamp: stamp, Last: now}, impl.Accepted
}

func wantAdmit(t *testing.T, p impl.Peer, stamp [12]byte, now int, want impl.Peer, code int) {
	t.Helper()
	if got, gotCode := impl.Admit(p, stamp, now); got != want || gotCode != code {
		t.Errorf("%v at %d with %x: got %v %d, want %v %d", p, now, stamp, got, gotCode, want, code)
	}
}

func TestAdmitOfStamps(t *testing.T) {
	last := [12]byte{5: 7, 11: 7}
	p := impl.Peer{Seen: true, Stamp: last, Last: 100}
	now := 100 + gap
	wantAdmit(t, p, last, now, p, impl.Replayed)
	for i := range last {
		later, earlier := last, last
		later[i]++
		wantAdmit(t, p, later, now, impl.Peer{Seen: true, Stamp: later, Last: now}, impl.Accepted)
		if i == 5 || i == 11 {
			earlier[i]--
			wantAdmit(t, p, earlier, now, p, impl.Replayed)
		}
		q := impl.Peer{Seen: true, Stamp: later, Last: 100}
		wantAdmit(t, q, last, now, q, impl.Replayed)
	}
	high := [12]byte(repeated(0xFF, 12))
	wantAdmit(t, p, high, now, impl.Peer{Seen: true, Stamp: high, Last: now}, impl.Accepted)
	q := impl.Peer{Seen: true, Stamp: high, Last: 100}
	wantAdmit(t, q, high, math.MaxInt, q, impl.Replayed)
	q = impl.Peer{Seen: true, Last: 100}
	wantAdmit(t, q, [12]byte{}, now, q, impl.Replayed)
}

// A peer that wasn't seen has neither stamp nor time, whatever stands there.
func TestAdmitOfAPeerNotSeen(t *testing.T) {
	high := [12]byte(repeated(0xFF, 12))
	for _, p := range []impl.Peer{{}, {Stamp: high}, {Stamp: high, Last: math.MaxInt}, {Last: -1}, {Last: math.MinInt}, {Last: 7}} {
		for _, now := range []int{math.MinInt, -1, 0, 7, gap - 1, math.MaxInt} {
			for _, stamp := range [][12]byte{{}, {11: 1}, high} {
				wantAdmit(t, p, stamp, now, impl.Peer{Seen: true, Stamp: stamp, Last: now}, impl.Accepted)
			}
		}
	}
}

func TestAdmitOfTimes(t *testing.T) {
	old, stamp := impl.TaiOf(3), impl.TaiOf(4)
	for _, c := range []struct {
		last, now int
		accepted  bool
	}{
		{0, gap, true}, {0, gap - 1, false}, {0, gap + 1, true}, {0, 0, false}, {0, -1, false},
		{1, gap, false}, {1, gap + 1, true}, {1000, 999, false}, {1000, 1000, false},
		{-1, gap, false}, {-1, gap - 1, false}, {-1, math.MaxInt, false}, {-1, -1, false}, {-gap, 0, false}, {-gap - 1, -1, false},
		{-2 * gap, -gap, false}, {math.MinInt, math.MaxInt, false}, {math.MinInt, 0, false}, {math.MinInt, -1, false},
		{math.MinInt, math.MinInt, false}, {math.MinInt, math.MinInt + gap, false}, {math.MinInt + 1, math.MaxInt, false},
		{0, math.MaxInt, true}, {math.MaxInt, math.MaxInt, false}, {math.MaxInt - gap, math.MaxInt, true},
		{math.MaxInt - gap + 1, math.MaxInt, false}, {math.MaxInt - gap, math.MaxInt - 1, false},
		{math.MaxInt, math.MinInt, false}, {math.MaxInt, 0, false}, {math.MaxInt, -1, false}, {math.MaxInt - 1, math.MinInt, false},
		{0, math.MinInt, false}, {1, math.MinInt, false}, {gap, math.MinInt, false}, {math.MaxInt, math.MaxInt - gap, false},
	} {
		p := impl.Peer{Seen: true, Stamp: old, Last: c.last}
		if c.accepted {
			wantAdmit(t, p, stamp, c.now, impl.Peer{Seen: true, Stamp: stamp, Last: c.now}, impl.Accepted)
		} else {
			wantAdmit(t, p, stamp, c.now, p, impl.Flooded)
		}
		wantAdmit(t, p, old, c.now, p, impl.Replayed)
		wantAdmit(t, p, impl.TaiOf(2), c.now, p, impl.Replayed)
	}
}

func TestAdmitAgainstTheWords(t *testing.T) {
	r := rand.New(rand.NewSource(14))
	count := map[int]int{}
	for range 50000 {
		now := pickNear(r, 0, gap, 3*gap, 1<<40, -gap, math.MinInt+1, math.MaxInt-1)
		last := pickBetween(r, now-gap, now-gap+1, now-gap-1, now, now-1, now+1, 0, -1, math.MinInt, math.MaxInt, int(r.Uint64()))
		p := impl.Peer{Seen: r.Intn(5) > 0, Stamp: [12]byte{11: byte(r.Intn(3))}, Last: last}
		stamp := [12]byte{11: byte(r.Intn(3))}
		want, code := plainAdmit(p, stamp, now)
		wantAdmit(t, p, stamp, now, want, code)
		count[code]++
	}
	for _, code := range []int{impl.Accepted, impl.Replayed, impl.Flooded} {
		if count[code] < 1000 {
			t.Errorf("only %d of code %d", count[code], code)
		}
	}
}

// Over a run of clocks that don't fall, accepted stamps rise and lie FloodGap apart.
func TestAdmitOverARun(t *testing.T) {
	r := rand.New(rand.NewSource(15))
	for range 50 {
		var p impl.Peer
		now, accepted := 0, 0
		for range 300 {
			now += pickBetween(r, 0, 1, gap/3, gap-1, gap, 2*gap)
			stamp := impl.TaiOf(now - r.Intn(gap))
			after, code := impl.Admit(p, stamp, now)
			if code != impl.Accepted {
				if after != p {
					t.Fatalf("refused with %d, and %v is %v", code, p, after)
				}
				continue
			}
			if p.Seen && (!impl.TaiLess(p.Stamp, stamp) || now-p.Last < gap) {
				t.Fatalf("%v was accepted at %d behind %v", stamp, now, p)
			}
			p = after
			accepted++
		}
		if accepted < 50 {
			t.Errorf("only %d accepted", accepted)
		}
	}
}
