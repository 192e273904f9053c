package tests

import (
	"math/big"
	"math/rand"
	"slices"
	"testing"

	"loop.example/s02974/impl"
)

// Promise 2: known answers of the two uses of the block function, the counter at its ends.
func TestChaBlockKnownAnswers(t *testing.T) {
	zeros, some, ones := make([]byte, 32), filled(32), repeated(0xFF, 32)
	for _, c := range []struct {
		key     []byte
		counter uint32
		nonce   []byte
		want    string
	}{
		{zeros, 0, zeros, "76b8e0ada0f13d90405d6ae55386bd28bdd219b8a08ded1aa836efcc8b770dc7da41597c5157488d7724e03fb8d84a376a43b8f41518a11cc387b669b2ee6586"},
		{zeros, 1, zeros, "9f07e7be5551387a98ba977c732d080dcb0f29a048e3656912c6533e32ee7aed29b721769ce64e43d57133b074d839d531ed1f28510afb45ace10a1f4b794d6f"},
		{zeros, 0, some, "43c8f805749dadc9a891a54f22092c2984c935b0852fbdef87b07a24ee212367cbef88a1d0c41c5f8eb8b6adfb67da1562739e51710eb1c4907852e037859b0b"},
		{some, 0, zeros, "7915f2d5eb580f2f0c51926d359acd41862bebe12f542ecb24eb1b01ccea7eb164f2a451dde96dbd0c7730e194cd014cc57b4927d48689345870560c7a1ee542"},
		{some, 1, some, "f637a5a27ac67d32fe601289962e3b7d283c2293f80d773558d81890e1483eca492499605582e54b164665b72979a8721eca3557e2c2c1478b05c1793c5ef5fc"},
		{some, 0xFFFFFFFF, ones, "852744839a754771faee0a90601177ba7a670cdba250b688a316a6184c60479411ba52c5dafa1ddc00d0a40ea44583ebe8d47479873ff88ddb04d75b8c4e0e22"},
		{ones, 0xFFFFFFFF, zeros, "0128cce1088c30077725485a23579c387fb1f4f1379c47466718a758e8eb88869e68a983c35eebc42726391f68325a7e06a63f85ee0ed9472b8f3e38580227f2"},
		{ones, 0xFFFFFFFF, ones, "d72b21cfa4b6b0c41d61f62b8a11159c6a4f63bc56c2035796c7ad37811121bbec56d54a530f3a933dd28a50feb23bfaf64f405be985f3718bdf4683e96be749"},
	} {
		got := impl.ChaBlock([32]byte(c.key), c.counter, [12]byte(c.nonce))
		wantHex(t, got[:], c.want, "block of key %x, counter %d, nonce %x", c.key, c.counter, c.nonce[:12])
	}
	nonce := [12]byte{3: 9, 7: 0x4A}
	var key [32]byte
	for i := range key {
		key[i] = byte(i)
	}
	got := impl.ChaBlock(key, 1, nonce)
	wantHex(t, got[:], "10f1e7e4d13b5915500fdd1fa32071c4c7d1f4c733c068030422aa9ac3d46c4e"+
		"d2826446079faa0914c2d705d98b02a2b5129cd1de164eb9cbd083e8a2503c4e", "block of a counted key")
}

func TestHChaChaKnownAnswers(t *testing.T) {
	zeros, some, ones := make([]byte, 32), filled(32), repeated(0xFF, 32)
	for _, c := range []struct {
		key, nonce []byte
		want       string
	}{
		{zeros, zeros, "1140704c328d1d5d0e30086cdf209dbd6a43b8f41518a11cc387b669b2ee6586"},
		{zeros, some, "5f64aca9927b280d0f60490c9610c406d28bc3f9212ceb358e6bf0be7bf9cf01"},
		{some, zeros, "149d81747df4eefbda2330f4c134add6c57b4927d48689345870560c7a1ee542"},
		{some, some, "780231db967f938b41a2c9ec4e56c7e8eb06a09a70edd705ea56310f13003c9d"},
		{some, ones, "20afd3212c11273ec8c1a816ecab564fe9d47479883ff88ddc04d75b8d4e0e22"},
		{ones, ones, "72b3b06d36529091eb3394b216acf430f74f405bea85f3718cdf4683ea6be749"},
	} {
		got := impl.HChaCha([32]byte(c.key), [16]byte(c.nonce))
		wantHex(t, got[:], c.want, "derived key of %x, %x", c.key, c.nonce[:16])
	}
}

// number reads bytes little-endian.
func number(b []byte) *big.Int {
	turned := slices.Clone(b)
	slices.Reverse(turned)
	return new(big.Int).SetBytes(turned)
}

// bytesOf lays the low 128 bits of a number down little-endian.
func bytesOf(x *big.Int) []byte {
	low := new(big.Int).Mod(x, new(big.Int).Lsh(big.NewInt(1), 128))
	out := low.FillBytes(make([]byte, 16))
	slices.Reverse(out)
	return out
}

func modulus() *big.Int {
	return new(big.Int).Sub(new(big.Int).Lsh(big.NewInt(1), 130), big.NewInt(5))
}

// polyByBig is the document's authenticator in big numbers, word for word.
func polyByBig(key [32]byte, data []byte) []byte {
	half := key
	for _, i := range []int{3, 7, 11, 15} {
		half[i] &= 0x0F
	}
	for _, i := range []int{4, 8, 12} {
		half[i] &= 0xFC
	}
	r, acc := number(half[:16]), new(big.Int)
	for piece := range slices.Chunk(data, 16) {
		acc.Add(acc, number(append(slices.Clone(piece), 1)))
		acc.Mul(acc, r).Mod(acc, modulus())
	}
	return bytesOf(acc.Add(acc, number(key[16:])))
}

func checkPoly(t *testing.T, key [32]byte, data []byte) {
	t.Helper()
	want := polyByBig(key, data)
	if got := impl.Poly1305(key, data); got != [16]byte(want) {
		t.Errorf("Poly1305 of key %x, data %x: got %x, want %x", key, data, got, want)
	}
}

func TestPolyKnownAnswers(t *testing.T) {
	for _, c := range []struct {
		size int
		want string
	}{
		{0, "71787f868d949ba2a9b0b7bec5ccd3da"},
		{1, "7c81969bafd4eacfe3283f14287d9348"},
		{3, "d247eb7dc30292379efc4a02f9e614bd"},
		{4, "742bf8a06c46208ab0aaa39c75ff87b0"},
		{15, "f918c3e048dc32941794d6564c09c354"},
		{16, "d3177146af67054e0aac0181cbad12d0"},
		{17, "115ab13857cf41f64886bfcd1f4fe47c"},
		{31, "f291ae8ee879c938cfcd7c6a5f6655cd"},
		{32, "2cc9ac470e9dcb93e0dc768c5c6153be"},
		{33, "28a653f6766a03f12db9b643e2da2b3e"},
	} {
		got := impl.Poly1305([32]byte(filled(32)), filled(c.size))
		wantHex(t, got[:], c.want, "Poly1305 of %d bytes", c.size)
	}
	got := impl.Poly1305([32]byte(fromHex("85d6be7857556d337f4452fe42d506a80103808afb0db2fd4abff6af4149f51b")),
		[]byte("Cryptographic Forum Research Group"))
	wantHex(t, got[:], "a8061dc1305136c6c22b8baf0c0127a9", "Poly1305 of a sentence")
}

// Vectors of RFC 8439, A.3, number 7 and on: sums around the modulus and around 2^128.
func TestPolyHardSums(t *testing.T) {
	ones, zero15 := "ffffffffffffffffffffffffffffffff", "000000000000000000000000000000"
	for i, c := range []struct{ r, s, data, want string }{
		{"02" + zero15, "00" + zero15, ones, "03" + zero15},
		{"02" + zero15, ones, "02" + zero15, "03" + zero15},
		{"01" + zero15, "00" + zero15, ones + "f0ffffffffffffffffffffffffffffff" + "11" + zero15, "05" + zero15},
		{"01" + zero15, "00" + zero15, ones + "fbfefefefefefefefefefefefefefefe" + "01010101010101010101010101010101", "00" + zero15},
		{"02" + zero15, "00" + zero15, "fdffffffffffffffffffffffffffffff", "faffffffffffffffffffffffffffffff"},
		{"01000000000000000400000000000000", "00" + zero15,
			"e33594d7505e43b900000000000000003394d7505e4379cd01000000000000000000000000000000000000000000000001" + zero15,
			"14000000000000005500000000000000"},
		{"01000000000000000400000000000000", "00" + zero15,
			"e33594d7505e43b900000000000000003394d7505e4379cd010000000000000000000000000000000000000000000000",
			"13" + zero15},
	} {
		got := impl.Poly1305([32]byte(fromHex(c.r+c.s)), fromHex(c.data))
		wantHex(t, got[:], c.want, "hard sum %d", i)
	}
}

// With r = 1 the three pieces simply add up, to each number near the modulus and near 2^130.
func TestPolySumsAroundModulus(t *testing.T) {
	most := new(big.Int).Sub(new(big.Int).Lsh(big.NewInt(1), 128), big.NewInt(1))
	for d := int64(-40); d <= 40; d++ {
		// Each piece's byte 1 counts 2^128; so the pieces' own bytes add up to 2^128 - 5 + d.
		rest := new(big.Int).Add(most, big.NewInt(d-4))
		first := rest
		if rest.Cmp(most) > 0 {
			first = most
		}
		second := new(big.Int).Sub(rest, first)
		data := slices.Concat(bytesOf(first), bytesOf(second), make([]byte, 16))
		plain, full := [32]byte{0: 1}, [32]byte{0: 1}
		copy(full[16:], repeated(0xFF, 16))
		checkPoly(t, plain, data)
		checkPoly(t, full, data)
		if d >= 0 {
			got := impl.Poly1305(plain, data)
			if got != [16]byte{byte(d)} {
				t.Errorf("%d past the modulus: got %x", d, got)
			}
		}
	}
}

func TestPolyOfNoData(t *testing.T) {
	for _, key := range []([]byte){make([]byte, 32), filled(32), repeated(0xFF, 32)} {
		for _, data := range [][]byte{nil, {}} {
			if got := impl.Poly1305([32]byte(key), data); got != [16]byte(key[16:]) {
				t.Errorf("key %x: got %x", key, got)
			}
		}
	}
}

func TestPolyCutsTheKey(t *testing.T) {
	data := filled(50)
	for i := range 16 {
		for bit := range 8 {
			key := [32]byte{}
			key[i] = 1 << bit
			checkPoly(t, key, data)
			checkPoly(t, key, repeated(0xFF, 50))
		}
	}
}

// Bytes at their ends and in between, all lengths up to five pieces.
func TestPolyAgainstBigNumbers(t *testing.T) {
	random := rand.New(rand.NewSource(2))
	take := func(n int) []byte {
		b := make([]byte, n)
		kind := random.Intn(3)
		for i := range b {
			switch kind {
			case 0:
				b[i] = 0xFF
			case 1:
				b[i] = byte(255 * random.Intn(2))
			default:
				b[i] = byte(random.Intn(256))
			}
		}
		return b
	}
	for range 40 {
		for n := range 81 {
			checkPoly(t, [32]byte(take(32)), take(n))
		}
	}
	checkPoly(t, [32]byte(repeated(0xFF, 32)), repeated(0xFF, 70000))
}

func TestPolyLeavesArguments(t *testing.T) {
	for _, n := range []int{0, 1, 15, 16, 17, 100} {
		data := watch(filled(n))
		impl.Poly1305([32]byte(filled(32)), data.b)
		data.check(t, "data")
	}
}
