package tests

import (
	"math/big"
	"math/rand"
	"slices"
	"testing"

	"loop.example/s02974/impl"
)

// prime is p = 2^255 - 19.
func prime() *big.Int {
	return new(big.Int).Sub(powerOf2(255), big.NewInt(19))
}

func powerOf2(n uint) *big.Int {
	return new(big.Int).Lsh(big.NewInt(1), n)
}

// key32 lays a number below 2^256 down little-endian.
func key32(x *big.Int) [32]byte {
	out := x.FillBytes(make([]byte, 32))
	slices.Reverse(out)
	return [32]byte(out)
}

// near is base + n as bytes.
func near(base *big.Int, n int64) [32]byte {
	return key32(new(big.Int).Add(base, big.NewInt(n)))
}

func randomKey(r *rand.Rand) [32]byte {
	var k [32]byte
	r.Read(k[:])
	return k
}

// edgeFactors are numbers of 256 bits around 0, p, 2^255, 2p and 2^256, and some whose bits lie unevenly.
func edgeFactors() [][32]byte {
	twice := new(big.Int).Lsh(prime(), 1)
	factors := [][32]byte{
		{}, {1}, {2}, {19}, {38},
		near(prime(), -2), near(prime(), -1), near(prime(), 0), near(prime(), 1), near(prime(), 18),
		near(powerOf2(255), 0), near(powerOf2(255), 1),
		near(twice, -1), near(twice, 0), near(twice, 1), near(powerOf2(256), -2), near(powerOf2(256), -1),
		[32]byte(filled(32)), [32]byte(repeated(0x55, 32)), [32]byte(repeated(0xAA, 32)),
	}
	for _, bit := range []uint{50, 51, 52, 102, 127, 128, 153, 203, 204, 205, 254} {
		factors = append(factors, near(powerOf2(bit), 0), near(powerOf2(bit), -1))
	}
	return factors
}

func productByBig(a, b [32]byte) [32]byte {
	product := new(big.Int).Mul(number(a[:]), number(b[:]))
	return key32(product.Mod(product, prime()))
}

func checkProduct(t *testing.T, a, b [32]byte) {
	t.Helper()
	got := impl.FieldMul(a, b)
	if want := productByBig(a, b); got != want {
		t.Errorf("%x times %x: got %x, want %x", a, b, got, want)
	}
	if got != impl.FieldMul(b, a) {
		t.Errorf("%x times %x is another in the other order", a, b)
	}
	if number(got[:]).Cmp(prime()) >= 0 {
		t.Errorf("%x times %x is %x: not the least", a, b, got)
	}
}

func TestFieldMulAtEdges(t *testing.T) {
	for _, a := range edgeFactors() {
		for _, b := range edgeFactors() {
			checkProduct(t, a, b)
		}
	}
}

func TestFieldMulKnownAnswers(t *testing.T) {
	most := near(powerOf2(256), -1)
	for _, c := range []struct{ a, b, want [32]byte }{
		{near(prime(), 0), most, [32]byte{}},
		{near(prime(), -1), [32]byte{1}, near(prime(), -1)},
		{near(prime(), -1), near(prime(), 1), near(prime(), -1)},
		{near(prime(), 1), [32]byte{1}, [32]byte{1}},
		{near(powerOf2(255), -1), [32]byte{1}, [32]byte{18}},
		{near(powerOf2(255), 0), [32]byte{1}, [32]byte{19}},
		{near(powerOf2(255), 0), near(powerOf2(255), 0), [32]byte{0x69, 0x01}},
		{most, [32]byte{1}, [32]byte{37}},
	} {
		if got := impl.FieldMul(c.a, c.b); got != c.want {
			t.Errorf("%x times %x: got %x, want %x", c.a, c.b, got, c.want)
		}
	}
}

func TestFieldMulOfRandomNumbers(t *testing.T) {
	r := rand.New(rand.NewSource(4))
	for range 3000 {
		checkProduct(t, randomKey(r), randomKey(r))
	}
}

func TestFieldMulGroups(t *testing.T) {
	r := rand.New(rand.NewSource(5))
	factors := append(edgeFactors(), randomKey(r), randomKey(r))
	for range 5000 {
		a, b, c := factors[r.Intn(len(factors))], factors[r.Intn(len(factors))], factors[r.Intn(len(factors))]
		left := impl.FieldMul(impl.FieldMul(a, b), c)
		if right := impl.FieldMul(a, impl.FieldMul(b, c)); left != right {
			t.Errorf("%x, %x, %x: %x and %x", a, b, c, left, right)
		}
	}
}
