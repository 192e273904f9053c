package tests

import (
	"crypto/ecdh"
	"math"
	"math/big"
	"math/rand"
	"testing"

	"loop.example/s02974/impl"
)

func keyOfHex(s string) [32]byte {
	return [32]byte(fromHex(s))
}

func flipped(k [32]byte, bit int) [32]byte {
	k[bit/8] ^= 1 << (bit % 8)
	return k
}

// ladderByBig is the document's ladder in big numbers, word for word.
func ladderByBig(scalar, point [32]byte) [32]byte {
	p := prime()
	plus := func(a, b *big.Int) *big.Int { return new(big.Int).Mod(new(big.Int).Add(a, b), p) }
	minus := func(a, b *big.Int) *big.Int { return new(big.Int).Mod(new(big.Int).Sub(a, b), p) }
	times := func(a, b *big.Int) *big.Int { return new(big.Int).Mod(new(big.Int).Mul(a, b), p) }
	scalar[0] -= scalar[0] % 8
	scalar[31] = scalar[31]%64 + 64
	point[31] %= 128
	k, u := number(scalar[:]), new(big.Int).Mod(number(point[:]), p)
	x2, z2, x3, z3 := big.NewInt(1), big.NewInt(0), u, big.NewInt(1)
	for i := 254; i >= 0; i-- {
		if k.Bit(i) == 1 {
			x2, z2, x3, z3 = x3, z3, x2, z2
		}
		a, b, c, d := plus(x2, z2), minus(x2, z2), plus(x3, z3), minus(x3, z3)
		aa, bb := times(a, a), times(b, b)
		e := minus(aa, bb)
		da, cb := times(d, a), times(c, b)
		x3 = times(plus(da, cb), plus(da, cb))
		z3 = times(u, times(minus(da, cb), minus(da, cb)))
		x2 = times(aa, bb)
		z2 = times(e, plus(aa, times(big.NewInt(121665), e)))
		if k.Bit(i) == 1 {
			x2, z2, x3, z3 = x3, z3, x2, z2
		}
	}
	return key32(times(x2, new(big.Int).Exp(z2, minus(p, big.NewInt(2)), p)))
}

// scaled is the product without its meter.
func scaled(scalar, point [32]byte) [32]byte {
	product, _ := impl.ScalarMult(scalar, point, 0)
	return product
}

func publicOf(private [32]byte) [32]byte {
	public, _ := impl.PublicKey(private, 0)
	return public
}

func TestScalarMultKnownAnswers(t *testing.T) {
	for _, c := range [][3]string{
		{"a546e36bf0527c9d3b16154b82465edd62144c0ac1fc5a18506a2244ba449ac4",
			"e6db6867583030db3594c1a424b15f7c726624ec26b3353b10a903a6d0ab1c4c",
			"c3da55379de9c6908e94ea4df28d084f32eccf03491c71f754b4075577a28552"},
		{"4b66e9d4d1b4673c5ad22691957d6af5c11b6421e0ea01d42ca4169e7918ba0d",
			"e5210f12786811d3f4b7959d0538ae2c31dbe7106fc03c3efc4cd549c715a493",
			"95cbde9476e8907d7aade45cb4b873f88b595a68799fa152e6f8f7647aac7957"},
		{"77076d0a7318a57d3c16c17251b26645df4c2f87ebc0992ab177fba51db92c2a",
			"de9edb7d7b7dc1b4d35b61c2ece435373f8343c85b78674dadfc7e146f882b4f",
			"4a5d9d5ba4ce2de1728e3bf480350f25e07e21c947d19e3376f09b3c1e161742"},
		{"5dab087e624a8a4b79e17f8b83800ee66f3bb1292618b6fd1c2f8b27ff88e0eb",
			"8520f0098930a754748b7ddcb43ef75a0dbf3a0d26381af4eba4a98eaa9b4e6a",
			"4a5d9d5ba4ce2de1728e3bf480350f25e07e21c947d19e3376f09b3c1e161742"},
	} {
		got := scaled(keyOfHex(c[0]), keyOfHex(c[1]))
		wantHex(t, got[:], c[2], "%s times %s", c[0], c[1])
	}
}

func TestPublicKeyKnownAnswers(t *testing.T) {
	for _, c := range [][2]string{
		{"77076d0a7318a57d3c16c17251b26645df4c2f87ebc0992ab177fba51db92c2a",
			"8520f0098930a754748b7ddcb43ef75a0dbf3a0d26381af4eba4a98eaa9b4e6a"},
		{"5dab087e624a8a4b79e17f8b83800ee66f3bb1292618b6fd1c2f8b27ff88e0eb",
			"de9edb7d7b7dc1b4d35b61c2ece435373f8343c85b78674dadfc7e146f882b4f"},
		{"0900000000000000000000000000000000000000000000000000000000000000",
			"422c8e7a6227d7bca1350b3e2bb7279f7897b87bb6854b783c60e80311ae3079"},
	} {
		got := publicOf(keyOfHex(c[0]))
		wantHex(t, got[:], c[1], "public key of %s", c[0])
	}
}

// Each product becomes the next scalar, and each scalar the next point.
func TestScalarMultIterated(t *testing.T) {
	scalar, point := [32]byte{9}, [32]byte{9}
	for range 1000 {
		scalar, point = scaled(scalar, point), scalar
	}
	wantHex(t, scalar[:], "684cf59ba83309552800ef566f2f4d3c1c3887c49360e3875f2eb94d99532c51", "a thousand times")
}

// edgeScalars have all, none or few of the bits that stay.
func edgeScalars() [][32]byte {
	return [][32]byte{{}, {7}, {8}, {31: 0x3F}, {31: 0x40}, {31: 0x80}, [32]byte(repeated(0xFF, 32)), [32]byte(filled(32)),
		[32]byte(repeated(0x55, 32)), near(powerOf2(252), 0)}
}

func TestScalarMultAtEdges(t *testing.T) {
	points := append(edgeFactors(), smallOrder()...)
	for _, scalar := range edgeScalars() {
		for _, point := range points {
			if got, want := scaled(scalar, point), ladderByBig(scalar, point); got != want {
				t.Errorf("%x times %x: got %x, want %x", scalar, point, got, want)
			}
		}
	}
}

func TestScalarMultOfRandomKeys(t *testing.T) {
	r := rand.New(rand.NewSource(6))
	for range 200 {
		scalar, point := randomKey(r), randomKey(r)
		private, err := ecdh.X25519().NewPrivateKey(scalar[:])
		if err != nil {
			t.Fatal(err)
		}
		public, err := ecdh.X25519().NewPublicKey(point[:])
		if err != nil {
			t.Fatal(err)
		}
		want, err := private.ECDH(public)
		if err != nil {
			t.Fatal(err)
		}
		if got := scaled(scalar, point); got != [32]byte(want) {
			t.Errorf("%x times %x: got %x, want %x", scalar, point, got, want)
		}
		if got := publicOf(scalar); got != [32]byte(private.PublicKey().Bytes()) {
			t.Errorf("public key of %x: got %x, want %x", scalar, got, private.PublicKey().Bytes())
		}
	}
}

func TestPrivateKeysAgree(t *testing.T) {
	r := rand.New(rand.NewSource(7))
	for range 100 {
		a, b := randomKey(r), randomKey(r)
		left, right := scaled(a, publicOf(b)), scaled(b, publicOf(a))
		if left != right || left == [32]byte{} {
			t.Errorf("%x and %x: %x and %x", a, b, left, right)
		}
	}
}

func TestScalarBitsThatDontCount(t *testing.T) {
	scalar, point := [32]byte(filled(32)), publicOf([32]byte{3})
	want := scaled(scalar, point)
	for bit := range 256 {
		same := bit < 3 || bit > 253
		if got := scaled(flipped(scalar, bit), point); (got == want) != same {
			t.Errorf("bit %d of the scalar: %x behind %x", bit, got, want)
		}
	}
}

func TestPointBitsThatDontCount(t *testing.T) {
	scalar, point := [32]byte(filled(32)), publicOf([32]byte{3})
	want := scaled(scalar, point)
	for bit := range 256 {
		same := bit == 255
		if got := scaled(scalar, flipped(point, bit)); (got == want) != same {
			t.Errorf("bit %d of the point: %x behind %x", bit, got, want)
		}
	}
}

func TestPointsOfPAndMore(t *testing.T) {
	scalar := [32]byte(filled(32))
	for n := range int64(19) {
		want := scaled(scalar, [32]byte{byte(n)})
		if got := scaled(scalar, near(prime(), n)); got != want {
			t.Errorf("p + %d: got %x, want %x", n, got, want)
		}
		if got := scaled(scalar, flipped(near(prime(), n), 255)); got != want {
			t.Errorf("p + %d with its highest bit: got %x, want %x", n, got, want)
		}
	}
}

// smallOrder are the points whose product with every scalar is zero, as the least numbers and as greater ones.
func smallOrder() [][32]byte {
	return [][32]byte{
		{}, {1}, near(prime(), -1), near(prime(), 0), near(prime(), 1),
		keyOfHex("e0eb7a7c3b41b8ae1656e3faf19fc46ada098deb9c32b1fd866205165f49b800"),
		keyOfHex("5f9c95bca3508c24b1d0b1559c83ef5b04445cc4581c8e86d8224eddd09f1157"),
	}
}

func TestPointsOfSmallOrder(t *testing.T) {
	for _, point := range smallOrder() {
		for _, scalar := range edgeScalars() {
			for _, p := range [][32]byte{point, flipped(point, 255)} {
				if got, meter := impl.ScalarMult(scalar, p, 3); got != [32]byte{} || meter != 4 {
					t.Errorf("%x times %x: got %x and the meter %d", scalar, p, got, meter)
				}
			}
		}
	}
}

func TestMeter(t *testing.T) {
	for _, c := range [][2]int{{0, 1}, {1, 2}, {41, 42}, {-1, 0}, {-7, -6}, {4095, 4096}, {1 << 40, 1<<40 + 1},
		{math.MaxInt - 1, math.MaxInt}, {math.MaxInt, math.MinInt}, {math.MinInt, math.MinInt + 1}} {
		product, meter := impl.ScalarMult([32]byte{9}, [32]byte{9}, c[0])
		if meter != c[1] || product != publicOf([32]byte{9}) {
			t.Errorf("ScalarMult with the meter %d: %x and %d", c[0], product, meter)
		}
		public, meter := impl.PublicKey([32]byte{9}, c[0])
		if meter != c[1] || public != publicOf([32]byte{9}) {
			t.Errorf("PublicKey with the meter %d: %x and %d", c[0], public, meter)
		}
	}
}
