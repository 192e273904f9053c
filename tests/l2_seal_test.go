package tests

import (
	"bytes"
	"slices"
	"testing"

	"loop.example/s02974/impl"
)

// sealer is one of the two pairs of calls, under a key and a nonce of the pair's own size.
type sealer struct {
	name      string
	nonceSize int
	seal      func(key [32]byte, nonce, text, extra []byte) []byte
	open      func(key [32]byte, nonce, box, extra []byte) ([]byte, bool)
}

func sealers() []sealer {
	return []sealer{
		{"Seal", 12,
			func(key [32]byte, nonce, text, extra []byte) []byte {
				return impl.Seal(key, [12]byte(nonce), text, extra)
			},
			func(key [32]byte, nonce, box, extra []byte) ([]byte, bool) {
				return impl.Open(key, [12]byte(nonce), box, extra)
			}},
		{"XSeal", 24,
			func(key [32]byte, nonce, text, extra []byte) []byte {
				return impl.XSeal(key, [24]byte(nonce), text, extra)
			},
			func(key [32]byte, nonce, box, extra []byte) ([]byte, bool) {
				return impl.XOpen(key, [24]byte(nonce), box, extra)
			}},
	}
}

// plainSeal is the document's sealing put together from the block function and the authenticator, without limits.
func plainSeal(key [32]byte, nonce, text, extra []byte) []byte {
	if len(nonce) == 24 {
		key = impl.HChaCha(key, [16]byte(nonce[:16]))
		nonce = slices.Concat(make([]byte, 4), nonce[16:])
	}
	box := slices.Clone(text)
	for i := range box {
		block := impl.ChaBlock(key, uint32(i/64+1), [12]byte(nonce))
		box[i] ^= block[i%64]
	}
	fill := func(n int) []byte { return make([]byte, (16-n%16)%16) }
	length := func(n int) []byte {
		return []byte{byte(n), byte(n >> 8), byte(n >> 16), byte(n >> 24), 0, 0, 0, 0}
	}
	under := impl.ChaBlock(key, 0, [12]byte(nonce))
	tag := impl.Poly1305([32]byte(under[:32]),
		slices.Concat(extra, fill(len(extra)), box, fill(len(box)), length(len(extra)), length(len(box))))
	return append(box, tag[:]...)
}

// Promise 3: vectors of RFC 8439, 2.8.2, and of the draft for the long nonce.
func TestSealKnownAnswers(t *testing.T) {
	key := [32]byte(fromHex("808182838485868788898a8b8c8d8e8f909192939495969798999a9b9c9d9e9f"))
	text := []byte("Ladies and Gentlemen of the class of '99: If I could offer you only one tip for the future, " +
		"sunscreen would be it.")
	extra := fromHex("50515253c0c1c2c3c4c5c6c7")
	box := impl.Seal(key, [12]byte(fromHex("070000004041424344454647")), text, extra)
	wantHex(t, box, "d31a8d34648e60db7b86afbc53ef7ec2a4aded51296e08fea9e2b5a736ee62d6"+
		"3dbea45e8ca9671282fafb69da92728b1a71de0a9e060b2905d6a5b67ecd3b36"+
		"92ddbd7f2d778b8c9803aee328091b58fab324e4fad675945585808b4831d7bc"+
		"3ff4def08e4b7a9de576d26586cec64b61161ae10b594f09e26a7e902ecbd0600691", "Seal")
	box = impl.XSeal(key, [24]byte(fromHex("404142434445464748494a4b4c4d4e4f5051525354555657")), text, extra)
	wantHex(t, box, "bd6d179d3e83d43b9576579493c0e939572a1700252bfaccbed2902c21396cbb"+
		"731c7f1b0b4aa6440bf3a82f4eda7e39ae64c6708c54c216cb96b72e1213b452"+
		"2f8c9ba40db5d945b11b69b982c1bb9e3f3fac2bc369488f76b2383565d3fff9"+
		"21f9664c97637da9768812f615c68b13b52ec0875924c1c7987947deafd8780acf49", "XSeal")
}

// Every text up to past three blocks with extra data around a piece, told by one hash over all the boxes.
func TestSealOfEveryLength(t *testing.T) {
	want := []string{
		"e06856ba26af7b7784498eb7cfa30af5e2cf8665983777aca386154715ec8bee",
		"1f0d3760bf7f984553fd01c35322308bbc1284b3aca7c4ad8c99b2ef2ec1f64a",
	}
	key := [32]byte(filled(32))
	for i, s := range sealers() {
		var all []byte
		for size := range 200 {
			for _, extra := range []int{0, 1, 15, 16, 17, 33} {
				box := s.seal(key, filled(s.nonceSize), filled(size), filled(extra))
				all = append(all, box...)
				text, ok := s.open(key, filled(s.nonceSize), box, filled(extra))
				if !ok || !bytes.Equal(text, filled(size)) {
					t.Errorf("%s: text of %d, extra of %d bytes isn't opened", s.name, size, extra)
				}
			}
		}
		got := impl.Hash(all)
		wantHex(t, got[:], want[i], "%s: all boxes", s.name)
	}
}

func TestSealOfNothing(t *testing.T) {
	key := [32]byte(filled(32))
	for _, s := range sealers() {
		nonce := filled(s.nonceSize)
		box := s.seal(key, nonce, nil, nil)
		if len(box) != 16 || !bytes.Equal(box, plainSeal(key, nonce, nil, nil)) {
			t.Errorf("%s of nothing: %x", s.name, box)
		}
		if !bytes.Equal(box, s.seal(key, nonce, []byte{}, []byte{})) {
			t.Errorf("%s: nil and empty differ", s.name)
		}
		if text, ok := s.open(key, nonce, box, nil); !ok || len(text) != 0 {
			t.Errorf("%s: a box of just its tag: %x %v", s.name, text, ok)
		}
	}
}

func TestSealAtItsLimits(t *testing.T) {
	key := [32]byte(filled(32))
	most, more := filled(impl.MaxData), filled(impl.MaxData+1)
	want := []string{
		"14ee370c421b747d6e8bfcebe911f689c17495f78c27032671448272f00e4242",
		"f21e2ed834230cc84d0a63fbe7138f5cc392c793312138aa270b96c9a5748591",
	}
	for i, s := range sealers() {
		nonce := filled(s.nonceSize)
		box := s.seal(key, nonce, most, most)
		got := impl.Hash(box)
		wantHex(t, got[:], want[i], "%s of just MaxData bytes", s.name)
		if text, ok := s.open(key, nonce, box, most); !ok || !bytes.Equal(text, most) {
			t.Errorf("%s: just MaxData bytes aren't opened", s.name)
		}
		for _, c := range []struct{ text, extra []byte }{{more, nil}, {nil, more}, {more, more}, {most, more}, {more, most}} {
			if box := s.seal(key, nonce, c.text, c.extra); len(box) != 0 {
				t.Errorf("%s of %d and %d bytes gives %d bytes", s.name, len(c.text), len(c.extra), len(box))
			}
			// The tag is right; only the length is too great.
			box := plainSeal(key, nonce, c.text, c.extra)
			if text, ok := s.open(key, nonce, box, c.extra); ok || len(text) != 0 {
				t.Errorf("%s: a box of %d and extra of %d bytes is opened", s.name, len(box), len(c.extra))
			}
		}
	}
}

func checkRefused(t *testing.T, s sealer, key [32]byte, nonce, box, extra []byte, what string) {
	t.Helper()
	if text, ok := s.open(key, nonce, box, extra); ok || len(text) != 0 {
		t.Errorf("%s: %s: got %x %v", s.name, what, text, ok)
	}
}

func TestOpenOfShortBoxes(t *testing.T) {
	key := [32]byte(filled(32))
	for _, s := range sealers() {
		nonce := filled(s.nonceSize)
		for _, text := range [][]byte{nil, filled(20)} {
			box := s.seal(key, nonce, text, nil)
			for n := range 16 {
				checkRefused(t, s, key, nonce, box[:n], nil, "a box of too few bytes")
				checkRefused(t, s, key, nonce, box[len(box)-n:], nil, "the end of a box")
			}
		}
		checkRefused(t, s, key, nonce, nil, nil, "no box")
		checkRefused(t, s, key, nonce, make([]byte, 16), nil, "sixteen zeros")
	}
}

func TestOpenOfBrokenBoxes(t *testing.T) {
	key := [32]byte(filled(32))
	text, extra := filled(70), filled(20)
	for _, s := range sealers() {
		nonce := filled(s.nonceSize)
		box := s.seal(key, nonce, text, extra)
		for i := range box {
			for bit := range 8 {
				broken := slices.Clone(box)
				broken[i] ^= 1 << bit
				checkRefused(t, s, key, nonce, broken, extra, "a changed bit")
			}
		}
		checkRefused(t, s, key, nonce, append(slices.Clone(box), 0), extra, "a byte more")
		checkRefused(t, s, key, nonce, box[:len(box)-1], extra, "a byte less at the end")
		checkRefused(t, s, key, nonce, box[1:], extra, "a byte less at the beginning")
	}
}

func TestOpenWithOtherExtra(t *testing.T) {
	key := [32]byte(filled(32))
	text, extra := filled(40), filled(20)
	for _, s := range sealers() {
		nonce := filled(s.nonceSize)
		box := s.seal(key, nonce, text, extra)
		for i := range extra {
			other := slices.Clone(extra)
			other[i] ^= 0x80
			checkRefused(t, s, key, nonce, box, other, "changed extra data")
		}
		checkRefused(t, s, key, nonce, box, nil, "no extra data")
		checkRefused(t, s, key, nonce, box, extra[:19], "less extra data")
		checkRefused(t, s, key, nonce, box, append(slices.Clone(extra), 0), "a zero behind the extra data")
		// The authenticated bytes are the same but for the two lengths.
		moved := slices.Concat(extra, make([]byte, 12), box[:16])
		checkRefused(t, s, key, nonce, box[16:], moved, "a piece of the box moved to the extra data")
	}
}

func TestOpenWithOtherKeyOrNonce(t *testing.T) {
	key := [32]byte(filled(32))
	for _, s := range sealers() {
		nonce := filled(s.nonceSize)
		box := s.seal(key, nonce, filled(40), filled(20))
		for i := range key {
			other := key
			other[i] ^= 1
			checkRefused(t, s, other, nonce, box, filled(20), "another key")
		}
		for i := range nonce {
			other := slices.Clone(nonce)
			other[i] ^= 1
			checkRefused(t, s, key, other, box, filled(20), "another nonce")
		}
	}
}

func TestSealingLeavesArguments(t *testing.T) {
	key := [32]byte(filled(32))
	for _, s := range sealers() {
		nonce := filled(s.nonceSize)
		for _, size := range []int{0, 1, 15, 16, 17, 64, 65} {
			text, extra := watch(filled(size)), watch(filled(size))
			answer := s.seal(key, nonce, text.b, extra.b)
			text.check(t, "text")
			extra.check(t, "extra")
			text.spoil()
			extra.spoil()
			want := plainSeal(key, nonce, filled(size), filled(size))
			if !bytes.Equal(answer, want) {
				t.Errorf("%s of %d bytes shares memory with an argument", s.name, size)
			}
			box, extra := watch(answer), watch(filled(size))
			opened, _ := s.open(key, nonce, box.b, extra.b)
			box.check(t, "box")
			extra.check(t, "extra")
			box.spoil()
			extra.spoil()
			if !bytes.Equal(opened, filled(size)) {
				t.Errorf("%s: a text of %d bytes shares memory with an argument", s.name, size)
			}
		}
	}
}

// A broken box is left as it is, too.
func TestRefusingLeavesArguments(t *testing.T) {
	for _, s := range sealers() {
		for _, size := range []int{0, 15, 16, 17, 80} {
			box, extra := watch(filled(size)), watch(filled(size))
			if _, ok := s.open([32]byte{}, filled(s.nonceSize), box.b, extra.b); ok {
				t.Errorf("%s: %d bytes of a pattern are opened", s.name, size)
			}
			box.check(t, "box")
			extra.check(t, "extra")
		}
	}
}
