package tests

import (
	"math"
	"math/rand"
	"slices"
	"testing"

	"loop.example/s02974/impl"
)

// plainConsume is the document's words, one behind the other.
func plainConsume(private, public [32]byte, known [][32]byte, m impl.Initiation, meter int) impl.Consumed {
	s := plainStart(public)
	s.c = impl.Kdf(1, s.c[:], m.Ephemeral[:])[0]
	s.h = impl.Hash(joined(s.h[:], m.Ephemeral[:]))
	one := scaled(private, m.Ephemeral)
	if one == [32]byte{} {
		return impl.Consumed{Code: impl.BadPoint, Meter: meter + 1}
	}
	ck := impl.Kdf(2, s.c[:], one[:])
	key, ok := impl.Open(ck[1], [12]byte{}, m.Static[:], s.h[:])
	if !ok {
		return impl.Consumed{Code: impl.BadStatic, Meter: meter + 1}
	}
	s.c, s.h = ck[0], impl.Hash(joined(s.h[:], m.Static[:]))
	who := 0
	for i := len(known) - 1; i >= 0; i-- {
		if known[i] == [32]byte(key) {
			who = i + 1
		}
	}
	if who == 0 {
		return impl.Consumed{Code: impl.Unknown, Meter: meter + 1}
	}
	two := scaled(private, [32]byte(key))
	if two == [32]byte{} {
		return impl.Consumed{Code: impl.BadPoint, Meter: meter + 2}
	}
	ck = impl.Kdf(2, s.c[:], two[:])
	stamp, ok := impl.Open(ck[1], [12]byte{}, m.Stamp[:], s.h[:])
	if !ok {
		return impl.Consumed{Code: impl.BadStamp, Meter: meter + 2}
	}
	s.c, s.h = ck[0], impl.Hash(joined(s.h[:], m.Stamp[:]))
	return impl.Consumed{Code: impl.Opened, Who: who, Stamp: [12]byte(stamp), Chain: s.c, Hash: s.h, Meter: meter + 2}
}

// consume hands the list over with room behind it, and wants both unwritten.
func consume(t *testing.T, gate keyPair, known [][32]byte, m impl.Initiation, meter int) impl.Consumed {
	t.Helper()
	whole := append(slices.Clone(known), [32]byte{0xA5}, [32]byte{0x5A})
	before := slices.Clone(whole)
	got := impl.ConsumeInit(gate.private, gate.public, whole[:len(known)], m, meter)
	if !slices.Equal(whole, before) {
		t.Errorf("the list of known keys was written into")
	}
	return got
}

// wantCode wants a refusal with that many multiplications, beside which all else is zero.
func wantCode(t *testing.T, what string, got impl.Consumed, code, meter int) {
	t.Helper()
	if got != (impl.Consumed{Code: code, Meter: meter}) {
		t.Errorf("%s: got %x, want code %d and meter %d", what, got, code, meter)
	}
}

func createFor(gate, mine keyPair) impl.Created {
	return impl.CreateInit(mine.private, mine.public, gate.public, someEphemeral(), 1, someStamp(), 0)
}

func wantOpen(t *testing.T, what string, got impl.Consumed, made impl.Created, stamp [12]byte, who, meter int) {
	t.Helper()
	want := impl.Consumed{Code: impl.Opened, Who: who, Stamp: stamp, Chain: made.Chain, Hash: made.Hash, Meter: meter}
	if got != want {
		t.Errorf("%s: got %x, want %x", what, got, want)
	}
}

func TestWhatIsMadeIsOpened(t *testing.T) {
	r := rand.New(rand.NewSource(11))
	for range 150 {
		gate, mine := randomPair(r), randomPair(r)
		known := make([][32]byte, 1+r.Intn(20))
		for i := range known {
			known[i] = randomKey(r)
		}
		place := r.Intn(len(known))
		known[place] = mine.public
		stamp, meter := [12]byte(someBytes(r, 12)), int(r.Uint64())
		made := impl.CreateInit(mine.private, mine.public, gate.public, randomKey(r), r.Uint32(), stamp, 0)
		if made.Code != impl.Opened {
			t.Fatalf("%x wasn't made", made)
		}
		m, ok := impl.ParseInitiation(initiationBytes(impl.StampMacs(made.Msg, gate.public, true, cookie16(r))))
		if !ok {
			t.Fatalf("%x has no form", made.Msg)
		}
		wantOpen(t, "as it was made", consume(t, gate, known, made.Msg, meter), made, stamp, place+1, meter+2)
		wantOpen(t, "over the wire", consume(t, gate, known, m, meter), made, stamp, place+1, meter+2)
	}
}

// Keys of both sides and ephemeral ones at the edges of scalars, a side that speaks to itself among them.
func TestEdgeKeysAreOpened(t *testing.T) {
	for _, a := range edgeScalars() {
		for _, b := range edgeScalars() {
			gate, mine := pairOf(a), pairOf(b)
			made := impl.CreateInit(b, mine.public, gate.public, a, 1, [12]byte{}, 0)
			wantOpen(t, "edge keys", consume(t, gate, [][32]byte{mine.public}, made.Msg, 0), made, [12]byte{}, 1, 2)
		}
	}
}

// pickBetween is one of the choices.
func pickBetween[T any](r *rand.Rand, choices ...T) T {
	return choices[r.Intn(len(choices))]
}

// Messages with few faults and many, in lists with and without the key.
func TestConsumeInitAgainstTheWords(t *testing.T) {
	r := rand.New(rand.NewSource(12))
	gate, mine, other := randomPair(r), randomPair(r), randomPair(r)
	lists := [][][32]byte{nil, {mine.public}, {other.public}, {mine.public, other.public}, {other.public, mine.public, mine.public},
		{{}, {1}, mine.public}, {flipped(mine.public, 255)}}
	count := map[int]int{}
	for range 500 {
		public := pickBetween(r, mine.public, mine.public, mine.public, other.public, [32]byte{}, [32]byte{1}, flipped(mine.public, 255))
		to := pickBetween(r, gate.public, gate.public, gate.public, gate.public, flipped(gate.public, 255))
		m := impl.CreateInit(mine.private, public, to, randomKey(r), r.Uint32(), [12]byte(someBytes(r, 12)), 0).Msg
		m.Mac1, m.Mac2 = cookie16(r), cookie16(r)
		if r.Intn(8) == 0 {
			m.Ephemeral = pickBetween(r, smallOrder()...)
		}
		if r.Intn(8) == 0 {
			m.Static[r.Intn(48)] ^= 1 << r.Intn(8)
		}
		if r.Intn(4) == 0 {
			m.Stamp[r.Intn(28)] ^= 1 << r.Intn(8)
		}
		known, meter := pickBetween(r, lists...), int(r.Uint64())
		want := plainConsume(gate.private, gate.public, known, m, meter)
		if got := consume(t, gate, known, m, meter); got != want {
			t.Errorf("known %x: got %x, want %x", known, got, want)
		}
		count[want.Code]++
	}
	for _, code := range []int{impl.Opened, impl.BadPoint, impl.BadStatic, impl.Unknown, impl.BadStamp} {
		if count[code] < 10 {
			t.Errorf("only %d of code %d", count[code], code)
		}
	}
}

func TestPeersWhoseKeyStandsTwice(t *testing.T) {
	gate, mine := somePairs()
	made := createFor(gate, mine)
	a, b := [32]byte{200}, [32]byte{201}
	for _, c := range []struct {
		known [][32]byte
		who   int
	}{
		{[][32]byte{mine.public, mine.public}, 1},
		{[][32]byte{mine.public, a, mine.public}, 1},
		{[][32]byte{a, mine.public, mine.public}, 2},
		{[][32]byte{a, a, b, mine.public, b, mine.public, mine.public}, 4},
		{[][32]byte{a, b, mine.public, b}, 3},
	} {
		wantOpen(t, "a key twice", consume(t, gate, c.known, made.Msg, 0), made, someStamp(), c.who, 2)
	}
}

// Any number of peers may be known, more than a run has clients.
func TestManyKnownKeys(t *testing.T) {
	gate, mine := somePairs()
	made := createFor(gate, mine)
	known := make([][32]byte, 100000)
	for i := range known {
		known[i] = [32]byte{byte(i), byte(i >> 8), byte(i >> 16), 1}
	}
	wantCode(t, "not among many", consume(t, gate, known, made.Msg, 0), impl.Unknown, 1)
	known[len(known)-1] = mine.public
	wantOpen(t, "the last of many", consume(t, gate, known, made.Msg, 0), made, someStamp(), len(known), 2)
}

func TestKeysAreKnownByAllTheirBytes(t *testing.T) {
	gate, mine := somePairs()
	made := createFor(gate, mine)
	wantCode(t, "no list", consume(t, gate, nil, made.Msg, 3), impl.Unknown, 4)
	wantCode(t, "an empty list", consume(t, gate, [][32]byte{}, made.Msg, 3), impl.Unknown, 4)
	for bit := range 256 {
		known := [][32]byte{flipped(mine.public, bit)}
		wantCode(t, "another key", consume(t, gate, known, made.Msg, 0), impl.Unknown, 1)
	}
	if nothing := impl.ConsumeInit(gate.private, gate.public, nil, made.Msg, 3); nothing.Code != impl.Unknown {
		t.Errorf("nil: %x", nothing)
	}
}

// A public key in other bytes is another key, though its products are the same.
func TestPublicKeysInOtherBytes(t *testing.T) {
	gate, mine := somePairs()
	high := keyPair{mine.private, flipped(mine.public, 255)}
	made := createFor(gate, high)
	wantOpen(t, "known in these bytes", consume(t, gate, [][32]byte{mine.public, high.public}, made.Msg, 0), made, someStamp(), 2, 2)
	wantCode(t, "known in others", consume(t, gate, [][32]byte{mine.public}, made.Msg, 0), impl.Unknown, 1)

	far := keyPair{gate.private, flipped(gate.public, 255)}
	made = createFor(far, mine)
	wantOpen(t, "a gate in these bytes", consume(t, far, [][32]byte{mine.public}, made.Msg, 0), made, someStamp(), 1, 2)
	wantCode(t, "a gate in others", consume(t, gate, [][32]byte{mine.public}, made.Msg, 0), impl.BadStatic, 1)
}

func TestSenderAndMacsDontMatter(t *testing.T) {
	gate, mine := somePairs()
	made := createFor(gate, mine)
	r := rand.New(rand.NewSource(13))
	for range 20 {
		m := made.Msg
		m.Sender, m.Mac1, m.Mac2 = r.Uint32(), cookie16(r), cookie16(r)
		wantOpen(t, "another sender, other macs", consume(t, gate, [][32]byte{mine.public}, m, 0), made, someStamp(), 1, 2)
	}
}

func TestConsumeInitMeter(t *testing.T) {
	gate, mine := somePairs()
	made := createFor(gate, mine)
	known := [][32]byte{mine.public}
	noPoint, badStatic, badStamp := made.Msg, made.Msg, made.Msg
	noPoint.Ephemeral = [32]byte{1}
	badStatic.Static[0] ^= 1
	badStamp.Stamp[0] ^= 1
	for _, c := range [][3]int{{0, 1, 2}, {-1, 0, 1}, {-2, -1, 0}, {4094, 4095, 4096}, {math.MaxInt - 2, math.MaxInt - 1, math.MaxInt},
		{math.MaxInt - 1, math.MaxInt, math.MinInt}, {math.MaxInt, math.MinInt, math.MinInt + 1},
		{math.MinInt, math.MinInt + 1, math.MinInt + 2}} {
		wantOpen(t, "opened", consume(t, gate, known, made.Msg, c[0]), made, someStamp(), 1, c[2])
		wantCode(t, "a bad stamp", consume(t, gate, known, badStamp, c[0]), impl.BadStamp, c[2])
		wantCode(t, "unknown", consume(t, gate, nil, made.Msg, c[0]), impl.Unknown, c[1])
		wantCode(t, "a bad static key", consume(t, gate, known, badStatic, c[0]), impl.BadStatic, c[1])
		wantCode(t, "a bad point", consume(t, gate, known, noPoint, c[0]), impl.BadPoint, c[1])
	}
}
