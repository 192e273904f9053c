package tests

import (
	"bytes"
	"math"
	"testing"

	"loop.example/s02974/impl"
)

// Promise 1: the edges are no data, the border of a block, and several blocks.
func TestHashKnownAnswers(t *testing.T) {
	abc := impl.Hash([]byte("abc"))
	wantHex(t, abc[:], "508c5e8c327c14e2e1a72ba34eeb452f37458b209ed63a294d999b4c86675982", "Hash of abc")
	for _, c := range []struct {
		size int
		want string
	}{
		{0, "69217a3079908094e11121d042354a7c1f55b6482ca1a51e1b250dfd1ed0eef9"},
		{1, "fc87f4f1d721942d282aa61989c069b290d1447d20d4b811430f47ea0edf9991"},
		{2, "a835841bbf1e45ddef8c135b6b2a7181e1c66536cf5ebd1f9dc3561b3eaeef81"},
		{3, "f91a7474b1f43009c814ec8bab4374ef7aba753071f735c20ae1b1d5682839d1"},
		{4, "261f319a82ab783513b845b43bddf3752ab632b185ce61c17facdc6edea827fe"},
		{62, "1720554033a99a55cfebedf27d0ca890478be7b2bc6035ca7ee815cca0ce07f5"},
		{63, "e2d846d7c20db945cdceecb1268cde5925ed833a041f7e8c77c9cc78803757a5"},
		{64, "034f1c1a78a99f9e92d65a14a00245b101f90962b1cde26a3189b942102a561b"},
		{65, "63e0579657b33dd014496cc6ea2c10af732be1084f56bf7d299abed8eb47aff6"},
		{127, "edeacce47f83222d3e0879b004598c586d2937fb6fde09366ee4e3fb35a9f218"},
		{128, "8de910df97a180f0b50c9354479b6aad83f87b1f29452cc365aa38ccce87585c"},
		{129, "1af646922eb1d71105953996b8228c4587cee0b7b69909a28342e3765f8be5e8"},
		{1000, "fb19beffb1c5aab7adfdd4f2ecf66f3d4ea5d7786a3fbe1ce828c8546f9eff28"},
		{70000, "9f2b409b578fbe6bd0cc510b69a685f33ff5c345e3a0afc0a2915b7ca0c65969"},
	} {
		got := impl.Hash(filled(c.size))
		wantHex(t, got[:], c.want, "Hash of %d bytes", c.size)
	}
}

// Every length up to nearly five blocks, told by one hash over all the hashes.
func TestHashOfEveryLength(t *testing.T) {
	var all []byte
	for n := range 301 {
		h := impl.Hash(filled(n))
		all = append(all, h[:]...)
	}
	got := impl.Hash(all)
	wantHex(t, got[:], "618f3a3d57fb66d19af989f99437eb1cdf54ba500adcb6b1d9d05b9d518dfe31", "all hashes")
}

func TestHashTellsZerosFromFilling(t *testing.T) {
	if impl.Hash(nil) != impl.Hash([]byte{}) {
		t.Errorf("nil and empty data differ")
	}
	seen := map[[32]byte]int{}
	for n := range 200 {
		h := impl.Hash(make([]byte, n))
		if m, ok := seen[h]; ok {
			t.Errorf("%d and %d zeros have one hash", m, n)
		}
		seen[h] = n
	}
}

func TestMacKnownAnswers(t *testing.T) {
	for _, c := range []struct {
		key, size int
		want      string
	}{
		{0, 0, "64550d6ffe2c0a01a14aba1eade0200c"},
		{0, 1, "c8814ea06a53a108a02015477d9ea347"},
		{0, 63, "6b05b0ca4ed2b0a2fcf8a0f127331658"},
		{0, 64, "ebf9cb9b0a16e3f4515490f4623057a1"},
		{0, 65, "52a7dd82d5c8c0fc871a9eaccf9b5cd7"},
		{1, 0, "95714fec355dea0dda4da4bebf429e17"},
		{1, 1, "c90fed06fc6b06cabfe79d1beceb1b58"},
		{1, 63, "e58154e3fd0e411ff3dd876f4467c0f0"},
		{1, 64, "30108f3e159cfd7328b82250134863da"},
		{1, 65, "b57205745bdb0c8740012891a7828e76"},
		{31, 0, "f41d1bef738d8a8231e71a34b8ff80e0"},
		{31, 65, "0b6b95541cddd05acb4fbc1a20f2ebac"},
		{32, 0, "71df3a44d95430fead11ca2c950debb1"},
		{32, 1, "e11455564aea7773c0fd06253a57f9a4"},
		{32, 63, "0ee8440eb8e2bd2536d8b1f39a434110"},
		{32, 64, "b38eadfea67fc3267af4ab4c197de7bd"},
		{32, 65, "02eba5985f4a765f92529c07bea05b97"},
	} {
		got := impl.Mac(filled(c.key), filled(c.size))
		wantHex(t, got[:], c.want, "Mac of a key of %d and data of %d bytes", c.key, c.size)
	}
	var all []byte
	for k := range 33 {
		for n := range 131 {
			m := impl.Mac(filled(k), filled(n))
			all = append(all, m[:]...)
		}
	}
	got := impl.Hash(all)
	wantHex(t, got[:], "b15161676cd252e4255eb6bf9bd4518c4eacf17fa3b039eb6f2f5edefadb1613", "all macs")
}

func TestMacKeys(t *testing.T) {
	for _, n := range []int{33, 34, 64, 65, 1000} {
		if got := impl.Mac(filled(n), []byte("data")); got != [16]byte{} {
			t.Errorf("a key of %d bytes gives %x, want zeros", n, got)
		}
		if got := impl.Mac(filled(n), nil); got != [16]byte{} {
			t.Errorf("a key of %d bytes without data gives %x, want zeros", n, got)
		}
	}
	if impl.Mac(make([]byte, 1), nil) == impl.Mac(nil, nil) {
		t.Errorf("a key of one zero is no key")
	}
	if impl.Mac(make([]byte, 31), nil) == impl.Mac(make([]byte, 32), nil) {
		t.Errorf("keys of 31 and 32 zeros are one")
	}
	if impl.Mac(nil, []byte("x")) != impl.Mac([]byte{}, []byte("x")) {
		t.Errorf("nil and an empty key differ")
	}
	half := impl.Hash([]byte("x"))
	if impl.Mac(nil, []byte("x")) == [16]byte(half[:16]) {
		t.Errorf("Mac without a key is the beginning of Hash")
	}
}

func TestHmacKnownAnswers(t *testing.T) {
	for _, c := range []struct {
		key, size int
		want      string
	}{
		{0, 0, "eaf4bb25938f4d20e72656bbbc7a9bf63c0c18537333c35bdb67db1402661acd"},
		{0, 1, "88bc82e13fb03407c040dd36fdf32683e247787fc81c45f9135a01097be30495"},
		{1, 64, "d1348f492da4a52da7d507fdb736651dc23306a3808b15919688af16962a7020"},
		{32, 0, "6742cb7da299ece6134643a2648547e903a0069f820ce3928bbdfe0f8fdd5eb3"},
		{32, 64, "19be7395595381aa0a089e05caacbe9e1a8322286cc2322e6f30a0832ce7a58c"},
		{63, 1, "fb2c632cd8cd571de43744eef9389e7ce21ce89e4b07709e946624aa86111efb"},
		{64, 0, "6070b74ee46a22d84dcaa17cdf9cdd2a2ee9591084415913c4530bc62bb77616"},
		{64, 1, "9052d45271c523e0eed40657136951252930030b2204108900d9ca02156f0c43"},
		{64, 64, "df7521f1be18cdd03e74d064b660c763faccdaaa074bdbc205ed715e61e4f507"},
		{65, 0, "ab7a7db8a1f4ee786b5f378c25a431508e1e0b3fd937b140f18492156f0f6496"},
		{65, 1, "3bd2f01c7ece40bf812f0186b4f45f76fd689161a4dc7ae451c7360db8f72dde"},
		{65, 64, "699e47dfe4ccdcfce410d97cbc3e0a52876190f5fd50911d8177948d0da1ecfa"},
		{129, 64, "44791b3ed2992983203a4857af7825381e1c15b8148878428d58cc2e1787dda1"},
	} {
		got := impl.Hmac(filled(c.key), filled(c.size))
		wantHex(t, got[:], c.want, "Hmac of a key of %d and data of %d bytes", c.key, c.size)
	}
	var all []byte
	for k := range 131 {
		for n := range 67 {
			h := impl.Hmac(filled(k), filled(n))
			all = append(all, h[:]...)
		}
	}
	got := impl.Hash(all)
	wantHex(t, got[:], "5fa30c58bdb1fae7d973a46ac29428ad11c2b2d53c707cefbae27fcdd1c85328", "all nested hashes")
}

func TestHmacLongKeyIsItsHash(t *testing.T) {
	for _, n := range []int{65, 66, 128, 1000} {
		short := impl.Hash(filled(n))
		if impl.Hmac(filled(n), []byte("data")) != impl.Hmac(short[:], []byte("data")) {
			t.Errorf("a key of %d bytes isn't replaced by its hash", n)
		}
	}
	short := impl.Hash(filled(64))
	if impl.Hmac(filled(64), []byte("data")) == impl.Hmac(short[:], []byte("data")) {
		t.Errorf("a key of 64 bytes is replaced by its hash")
	}
}

func TestKdfKnownAnswers(t *testing.T) {
	for _, c := range []struct {
		key, input int
		want       [3]string
	}{
		{0, 0, [3]string{
			"8387b46bf43eccfcf349552a095d8315c4055beb90208fb1be23b894bc2ed5d0",
			"58a0e5f6faefccf4807bff1f05fa8a9217945762040bcec2f4b4a62bdfe0e86e",
			"0ce6ea98ec548f8e281e93e32db65621c45eb18dc6f0a7ad94178610a2f7338e",
		}},
		{32, 32, [3]string{
			"d62e86966b6f21fe9b430468b28a2f23d00bc253537cab9fe29a26455144ae58",
			"58f6f6aef3b95cf4823dfc5c7afe6c70d86b93777c0e8893c0d128c45a430bc3",
			"0b0ec4d631baa0776412247a2dc5f5ce147407e8ff3f26c5f0f9f8aaa327c84a",
		}},
		{65, 64, [3]string{
			"1b44d0a55a63c64c4382235d4bad6f19a329f4b5034f778d899a6a1a7b269c45",
			"acd79c1846efb88c4cd97848d761e757b1f190a3847877932d9ac75a4094d9d6",
			"25fec04e52098517649ce7f72f6458aea6322e8246f5ff39cbe506dda1e67913",
		}},
	} {
		for n := 1; n <= 3; n++ {
			got := impl.Kdf(n, filled(c.key), filled(c.input))
			if len(got) != n {
				t.Errorf("Kdf of %d gives %d keys", n, len(got))
				continue
			}
			for i, k := range got {
				wantHex(t, k[:], c.want[i], "key %d of %d, of %d and %d bytes", i+1, n, c.key, c.input)
			}
		}
	}
}

func TestKdfOtherNumbers(t *testing.T) {
	for _, n := range []int{0, 4, 5, -1, -3, 255, 256, 257, 259, math.MaxInt, math.MinInt, math.MinInt + 1} {
		if got := impl.Kdf(n, filled(32), filled(32)); len(got) != 0 {
			t.Errorf("Kdf of %d gives %d keys", n, len(got))
		}
	}
}

func TestHashingLeavesArguments(t *testing.T) {
	for _, size := range []int{0, 1, 32, 33, 63, 64, 65, 200} {
		key, data := watch(filled(size)), watch(filled(size))
		impl.Hash(data.b)
		impl.Mac(key.b, data.b)
		impl.Hmac(key.b, data.b)
		keys := impl.Kdf(3, key.b, data.b)
		key.check(t, "key")
		data.check(t, "data")
		key.spoil()
		data.spoil()
		again := impl.Kdf(3, filled(size), filled(size))
		for i := range again {
			if keys[i] != again[i] {
				t.Errorf("key %d shares memory with an argument", i+1)
			}
		}
		keys[0], again[1] = [32]byte{}, [32]byte{}
		if third := impl.Kdf(3, filled(size), filled(size)); third[0] != again[0] || third[1] != keys[1] {
			t.Errorf("two answers of Kdf share memory")
		}
	}
	one, same := filled(100), filled(100)
	if impl.Mac(one[:32], one[32:]) != impl.Mac(same[:32], same[32:]) || !bytes.Equal(one, same) {
		t.Errorf("a key with the data behind it in one list")
	}
}
