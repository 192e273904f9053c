package tests

import (
	"math"
	"math/rand"
	"testing"

	"loop.example/s02974/impl"
)

// keyPair is a private key with its public one.
type keyPair struct {
	private, public [32]byte
}

func pairOf(private [32]byte) keyPair {
	return keyPair{private, publicOf(private)}
}

func randomPair(r *rand.Rand) keyPair {
	return pairOf(randomKey(r))
}

func somePairs() (gate, mine keyPair) {
	return pairOf([32]byte(repeated(0x42, 32))), pairOf([32]byte(filled(32)))
}

func someEphemeral() [32]byte {
	var k [32]byte
	for i := range k {
		k[i] = byte(i)
	}
	return k
}

func someStamp() [12]byte {
	return [12]byte(filled(12))
}

// plainState is chain and hash; plainStart and plainCreate are the document's words, one behind the other.
type plainState struct {
	c, h [32]byte
}

func plainStart(r [32]byte) plainState {
	c := impl.Hash([]byte("IK 25519 ChaChaPoly BLAKE2s"))
	h := impl.Hash(joined(c[:], []byte("front gate of a responder, first form")))
	return plainState{c, impl.Hash(joined(h[:], r[:]))}
}

func plainCreate(private, public, gate, ephemeral [32]byte, sender uint32, stamp [12]byte, meter int) impl.Created {
	s := plainStart(gate)
	e := publicOf(ephemeral)
	s.c = impl.Kdf(1, s.c[:], e[:])[0]
	s.h = impl.Hash(joined(s.h[:], e[:]))
	one := scaled(ephemeral, gate)
	if one == [32]byte{} {
		return impl.Created{Code: impl.BadPoint, Meter: meter + 2}
	}
	ck := impl.Kdf(2, s.c[:], one[:])
	static := impl.Seal(ck[1], [12]byte{}, public[:], s.h[:])
	s.c, s.h = ck[0], impl.Hash(joined(s.h[:], static))
	two := scaled(private, gate)
	if two == [32]byte{} {
		return impl.Created{Code: impl.BadPoint, Meter: meter + 3}
	}
	ck = impl.Kdf(2, s.c[:], two[:])
	sealed := impl.Seal(ck[1], [12]byte{}, stamp[:], s.h[:])
	s.c, s.h = ck[0], impl.Hash(joined(s.h[:], sealed))
	m := impl.Initiation{Sender: sender, Ephemeral: e, Static: [48]byte(static), Stamp: [28]byte(sealed)}
	return impl.Created{Msg: m, Chain: s.c, Hash: s.h, Code: impl.Opened, Meter: meter + 3}
}

// Known answers, computed apart from this program.
func TestCreateInitKnownAnswers(t *testing.T) {
	gate, mine := somePairs()
	far := pairOf([32]byte(repeated(0xFF, 32)))
	for _, c := range []struct {
		got  impl.Created
		want [5]string
	}{
		{impl.CreateInit(mine.private, mine.public, gate.public, someEphemeral(), 0, someStamp(), 0), [5]string{
			"8f40c5adb68f25624ae5b214ea767a6ec94d829d3d7b5e1ad1ba6f3e2138285f",
			"d0a94c444d9f207db624085748939ce1c8bb7859ab214d90c645a443cab882d4d8460c204b2f7a641b1776131efec784",
			"409da400923e79875d4f431ad246cbf8ef5f7c891bf9b689305de37e",
			"167cc5fcafd3a9f92191fa7c1617ff981824bebf466cf8369c012f4ca86845e4",
			"bad4b832197939c1eb31c8356e5ea6aca34597a739264032d81c74138259bdc0"}},
		{impl.CreateInit([32]byte{}, [32]byte(repeated(0xFF, 32)), far.public, [32]byte{}, 0, [12]byte{}, 0), [5]string{
			"2fe57da347cd62431528daac5fbb290730fff684afc4cfc2ed90995f58cb3b74",
			"8ab25789848581bc39b78200d8b6bfb226543c1c378eb0e345f749ae1af341f680a66653eb74cae40f79ab649d827d6c",
			"37fe1434566207795d63ca861c028d14cf4a9efee3aa65497655a95d",
			"7d03349844774390c68a0690a4fa1d03b3f954fc09ebab53009e5fa10c2bcfd4",
			"96d82f6a08919f7b32438d6faff7752aa0b4f9a6f98695f2c76c4f9413bf245b"}},
	} {
		wantHex(t, c.got.Msg.Ephemeral[:], c.want[0], "the ephemeral key")
		wantHex(t, c.got.Msg.Static[:], c.want[1], "the static key")
		wantHex(t, c.got.Msg.Stamp[:], c.want[2], "the stamp")
		wantHex(t, c.got.Chain[:], c.want[3], "the chain")
		wantHex(t, c.got.Hash[:], c.want[4], "the hash")
		if c.got.Code != impl.Opened || c.got.Meter != 3 {
			t.Errorf("code %d and meter %d", c.got.Code, c.got.Meter)
		}
	}
}

// Public keys that aren't those of the private ones are taken as they are; every tenth gate is of small order.
func TestCreateInitAgainstTheWords(t *testing.T) {
	r := rand.New(rand.NewSource(10))
	low := smallOrder()
	for n := range 150 {
		private, public, gate, ephemeral := randomKey(r), randomKey(r), randomKey(r), randomKey(r)
		if n%10 == 0 {
			gate = low[n/10%len(low)]
		}
		sender, stamp, meter := r.Uint32(), [12]byte(someBytes(r, 12)), int(r.Uint64())
		got := impl.CreateInit(private, public, gate, ephemeral, sender, stamp, meter)
		if want := plainCreate(private, public, gate, ephemeral, sender, stamp, meter); got != want {
			t.Errorf("gate %x: got %x, want %x", gate, got, want)
		}
	}
}

func TestCreateInitLeavesTheMacsZero(t *testing.T) {
	gate, mine := somePairs()
	for _, sender := range []uint32{0, 1, 0xA1B2C3D4, math.MaxUint32} {
		got := impl.CreateInit(mine.private, mine.public, gate.public, someEphemeral(), sender, someStamp(), 0)
		if got.Msg.Sender != sender || got.Msg.Mac1 != [16]byte{} || got.Msg.Mac2 != [16]byte{} {
			t.Errorf("sender %x: %x", sender, got.Msg)
		}
	}
}

// The first product is zeros already, whatever the scalars: two multiplications, and all else is zero.
func TestCreateInitForAGateOfSmallOrder(t *testing.T) {
	_, mine := somePairs()
	for _, low := range smallOrder() {
		for _, gate := range [][32]byte{low, flipped(low, 255)} {
			for _, ephemeral := range edgeScalars() {
				got := impl.CreateInit(mine.private, mine.public, gate, ephemeral, 7, someStamp(), 40)
				if got != (impl.Created{Code: impl.BadPoint, Meter: 42}) {
					t.Errorf("gate %x: %x", gate, got)
				}
			}
		}
	}
}

func TestCreateInitMeter(t *testing.T) {
	gate, mine := somePairs()
	for _, c := range [][3]int{{0, 3, 2}, {-1, 2, 1}, {-3, 0, -1}, {4093, 4096, 4095}, {math.MaxInt - 3, math.MaxInt, math.MaxInt - 1},
		{math.MaxInt - 2, math.MinInt, math.MaxInt}, {math.MaxInt - 1, math.MinInt + 1, math.MinInt},
		{math.MaxInt, math.MinInt + 2, math.MinInt + 1}, {math.MinInt, math.MinInt + 3, math.MinInt + 2}} {
		made := impl.CreateInit(mine.private, mine.public, gate.public, someEphemeral(), 1, someStamp(), c[0])
		if made.Code != impl.Opened || made.Meter != c[1] {
			t.Errorf("meter %d: code %d and meter %d", c[0], made.Code, made.Meter)
		}
		failed := impl.CreateInit(mine.private, mine.public, [32]byte{1}, someEphemeral(), 1, someStamp(), c[0])
		if failed != (impl.Created{Code: impl.BadPoint, Meter: c[2]}) {
			t.Errorf("meter %d, a bad point: %x", c[0], failed)
		}
	}
}

// Each byte that goes in makes another hash; the bits of scalars that don't count make none.
func TestCreateInitOfEachByte(t *testing.T) {
	gate, mine := somePairs()
	ephemeral, stamp := someEphemeral(), someStamp()
	first := impl.CreateInit(mine.private, mine.public, gate.public, ephemeral, 1, stamp, 0)
	differ := func(what string, i int, got impl.Created) {
		if got.Code != impl.Opened || got.Hash == first.Hash || (got.Chain == first.Chain) != (what == "public" || what == "stamp") {
			t.Errorf("byte %d of %s: %x", i, what, got)
		}
	}
	for i := range 32 {
		bit := 8*i + 4
		differ("private", i, impl.CreateInit(flipped(mine.private, bit), mine.public, gate.public, ephemeral, 1, stamp, 0))
		differ("public", i, impl.CreateInit(mine.private, flipped(mine.public, bit), gate.public, ephemeral, 1, stamp, 0))
		differ("gate", i, impl.CreateInit(mine.private, mine.public, flipped(gate.public, bit), ephemeral, 1, stamp, 0))
		differ("ephemeral", i, impl.CreateInit(mine.private, mine.public, gate.public, flipped(ephemeral, bit), 1, stamp, 0))
	}
	for i := range stamp {
		other := stamp
		other[i] ^= 1
		differ("stamp", i, impl.CreateInit(mine.private, mine.public, gate.public, ephemeral, 1, other, 0))
	}
	for _, bit := range []int{0, 1, 2, 254, 255} {
		got := impl.CreateInit(flipped(mine.private, bit), mine.public, gate.public, flipped(ephemeral, bit), 1, stamp, 0)
		if got != first {
			t.Errorf("bit %d of the private keys: %x", bit, got)
		}
	}
}
