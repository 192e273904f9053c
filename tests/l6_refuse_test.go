package tests

import (
	"testing"

	"loop.example/s02974/impl"
)

// An ephemeral key of small order is refused ahead of everything else that is wrong too.
func TestEphemeralKeysOfSmallOrder(t *testing.T) {
	gate, mine := somePairs()
	made := createFor(gate, mine)
	for _, low := range smallOrder() {
		for _, point := range [][32]byte{low, flipped(low, 255)} {
			m := made.Msg
			m.Ephemeral = point
			wantCode(t, "a bad point", consume(t, gate, [][32]byte{mine.public}, m, 5), impl.BadPoint, 6)
			m.Static[0] ^= 1
			m.Stamp[0] ^= 1
			wantCode(t, "all is wrong", consume(t, gate, nil, m, 5), impl.BadPoint, 6)
		}
	}
}

// sealedFor is a message whose boxes are right for the gate though the point behind it is of small order: everyone knows
// the product, so that only its being zeros can refuse it.
func sealedFor(gate, point, peer [32]byte) impl.Initiation {
	s := plainStart(gate)
	s.c = impl.Kdf(1, s.c[:], point[:])[0]
	s.h = impl.Hash(joined(s.h[:], point[:]))
	ck := impl.Kdf(2, s.c[:], make([]byte, 32))
	static := impl.Seal(ck[1], [12]byte{}, peer[:], s.h[:])
	s.c, s.h = ck[0], impl.Hash(joined(s.h[:], static))
	ck = impl.Kdf(2, s.c[:], make([]byte, 32))
	stamp := someStamp()
	sealed := impl.Seal(ck[1], [12]byte{}, stamp[:], s.h[:])
	return impl.Initiation{Ephemeral: point, Static: [48]byte(static), Stamp: [28]byte(sealed)}
}

func TestForgeriesByAProductOfZeros(t *testing.T) {
	gate, mine := somePairs()
	for _, point := range smallOrder() {
		m := sealedFor(gate.public, point, mine.public)
		wantCode(t, "a forged static key", consume(t, gate, [][32]byte{mine.public}, m, 0), impl.BadPoint, 1)
		m = sealedFor(gate.public, point, point)
		wantCode(t, "a forged static key of small order", consume(t, gate, [][32]byte{point}, m, 0), impl.BadPoint, 1)
	}
}

// forgedStamp is a message with a right ephemeral key, a static key of small order and a stamp sealed by zeros.
func forgedStamp(gate, ephemeral, peer [32]byte) impl.Initiation {
	e := publicOf(ephemeral)
	s := plainStart(gate)
	s.c = impl.Kdf(1, s.c[:], e[:])[0]
	s.h = impl.Hash(joined(s.h[:], e[:]))
	product := scaled(ephemeral, gate)
	ck := impl.Kdf(2, s.c[:], product[:])
	static := impl.Seal(ck[1], [12]byte{}, peer[:], s.h[:])
	s.c, s.h = ck[0], impl.Hash(joined(s.h[:], static))
	ck = impl.Kdf(2, s.c[:], make([]byte, 32))
	stamp := someStamp()
	sealed := impl.Seal(ck[1], [12]byte{}, stamp[:], s.h[:])
	return impl.Initiation{Ephemeral: e, Static: [48]byte(static), Stamp: [28]byte(sealed)}
}

// Known, such a key is refused at the second product, whatever its stamp is; not known, ahead of it.
func TestStaticKeysOfSmallOrder(t *testing.T) {
	gate, mine := somePairs()
	for _, low := range smallOrder() {
		for _, peer := range [][32]byte{low, flipped(low, 255)} {
			m := forgedStamp(gate.public, someEphemeral(), peer)
			wantCode(t, "known", consume(t, gate, [][32]byte{peer}, m, 0), impl.BadPoint, 2)
			wantCode(t, "known twice", consume(t, gate, [][32]byte{mine.public, peer, peer}, m, 0), impl.BadPoint, 2)
			wantCode(t, "not known", consume(t, gate, [][32]byte{mine.public}, m, 0), impl.Unknown, 1)
			wantCode(t, "nothing known", consume(t, gate, nil, m, 0), impl.Unknown, 1)
			m.Stamp[27] ^= 1
			wantCode(t, "a wrong stamp", consume(t, gate, [][32]byte{peer}, m, 0), impl.BadPoint, 2)
		}
	}
}

// The keys of small order in a list don't stand in the way of the others.
func TestKnownKeysOfSmallOrderAmongOthers(t *testing.T) {
	gate, mine := somePairs()
	made := createFor(gate, mine)
	known := append(smallOrder(), mine.public)
	wantOpen(t, "behind them", consume(t, gate, known, made.Msg, 0), made, someStamp(), len(known), 2)
	wantCode(t, "without it", consume(t, gate, smallOrder(), made.Msg, 0), impl.Unknown, 1)
}

// The initiator seals any key as its own: what tells is that the stamp was sealed with another.
func TestAPublicKeyOfAnother(t *testing.T) {
	gate, mine := somePairs()
	victim := pairOf([32]byte{77})
	made := createFor(gate, keyPair{mine.private, victim.public})
	if made.Code != impl.Opened || made.Meter != 3 {
		t.Fatalf("not made: %x", made)
	}
	wantCode(t, "as another", consume(t, gate, [][32]byte{mine.public, victim.public}, made.Msg, 0), impl.BadStamp, 2)
	wantCode(t, "as another unknown", consume(t, gate, [][32]byte{mine.public}, made.Msg, 0), impl.Unknown, 1)
}

// Where more than one thing is wrong, the first in the document's order is told.
func TestTheOrderOfRefusals(t *testing.T) {
	gate, mine := somePairs()
	made := createFor(gate, mine)
	known := [][32]byte{mine.public}
	m := made.Msg
	m.Stamp[5] ^= 1
	wantCode(t, "the stamp", consume(t, gate, known, m, 0), impl.BadStamp, 2)
	wantCode(t, "unknown, the stamp", consume(t, gate, nil, m, 0), impl.Unknown, 1)
	m.Static[5] ^= 1
	wantCode(t, "static key, stamp", consume(t, gate, known, m, 0), impl.BadStatic, 1)
	wantCode(t, "static key, unknown, stamp", consume(t, gate, nil, m, 0), impl.BadStatic, 1)
	m = made.Msg
	m.Static[5] ^= 1
	wantCode(t, "the static key", consume(t, gate, known, m, 0), impl.BadStatic, 1)
	wantCode(t, "zeros", impl.ConsumeInit([32]byte{}, [32]byte{}, nil, impl.Initiation{}, 0), impl.BadPoint, 1)
}

// Every bit of the message ahead of its macs, its sender aside, counts; so do the gate's keys.
func TestConsumeInitOfEachBit(t *testing.T) {
	gate, mine := somePairs()
	made := createFor(gate, mine)
	known := [][32]byte{mine.public}
	b := initiationBytes(made.Msg)
	for bit := 8 * 8; bit < 8*116; bit++ {
		changed := append([]byte{}, b...)
		changed[bit/8] ^= 1 << (bit % 8)
		m, ok := impl.ParseInitiation(changed)
		if !ok {
			t.Fatalf("bit %d changes the form", bit)
		}
		if bit < 8*88 {
			wantCode(t, "ephemeral or static key", consume(t, gate, known, m, 0), impl.BadStatic, 1)
		} else {
			wantCode(t, "stamp", consume(t, gate, known, m, 0), impl.BadStamp, 2)
		}
	}
	for bit := range 256 {
		wantCode(t, "the gate's public key", consume(t, keyPair{gate.private, flipped(gate.public, bit)}, known, made.Msg, 0), impl.BadStatic, 1)
		got := consume(t, keyPair{flipped(gate.private, bit), gate.public}, known, made.Msg, 0)
		if bit < 3 || bit > 253 {
			wantOpen(t, "a bit that doesn't count", got, made, someStamp(), 1, 2)
		} else {
			wantCode(t, "the gate's private key", got, impl.BadStatic, 1)
		}
	}
}

// Parts of two messages don't fit together.
func TestPartsOfTwoMessages(t *testing.T) {
	gate, mine := somePairs()
	known := [][32]byte{mine.public}
	one := createFor(gate, mine)
	two := impl.CreateInit(mine.private, mine.public, gate.public, [32]byte{5}, 1, impl.TaiOf(9), 0)
	m := one.Msg
	m.Stamp = two.Msg.Stamp
	wantCode(t, "the stamp of another", consume(t, gate, known, m, 0), impl.BadStamp, 2)
	m = one.Msg
	m.Static = two.Msg.Static
	wantCode(t, "the static key of another", consume(t, gate, known, m, 0), impl.BadStatic, 1)
	m = one.Msg
	m.Ephemeral = two.Msg.Ephemeral
	wantCode(t, "the ephemeral key of another", consume(t, gate, known, m, 0), impl.BadStatic, 1)
	later := impl.CreateInit(mine.private, mine.public, gate.public, someEphemeral(), 1, impl.TaiOf(9), 0)
	m = one.Msg
	m.Stamp = later.Msg.Stamp
	if got := consume(t, gate, known, m, 0); got.Code != impl.Opened || got.Stamp != impl.TaiOf(9) || got.Hash != later.Hash {
		t.Errorf("another stamp under the same keys: %x", got)
	}
}
