package impl

import "math/bits"

// tagSize is how many bytes of a box are its tag.
const tagSize = 16

// chaStart is the beginning of the block function; rest are its last four words.
func chaStart(key [32]byte, rest [16]byte) [16]uint32 {
	w := [16]uint32{0x61707865, 0x3320646E, 0x79622D32, 0x6B206574}
	loadWords(w[4:12], key[:])
	loadWords(w[12:], rest[:])
	return w
}

func chaRounds(w [16]uint32) [16]uint32 {
	for range 10 {
		for i := range 8 {
			p := mixPlaces[i]
			w[p[0]], w[p[1]], w[p[2]], w[p[3]] = quarterRound(w[p[0]], w[p[1]], w[p[2]], w[p[3]])
		}
	}
	return w
}

func quarterRound(a, b, c, d uint32) (uint32, uint32, uint32, uint32) {
	a += b
	d = bits.RotateLeft32(d^a, 16)
	c += d
	b = bits.RotateLeft32(b^c, 12)
	a += b
	d = bits.RotateLeft32(d^a, 8)
	c += d
	b = bits.RotateLeft32(b^c, 7)
	return a, b, c, d
}

// ChaBlock is one block of the stream, see chapter 3.
func ChaBlock(key [32]byte, counter uint32, nonce [12]byte) [64]byte {
	var rest [16]byte
	putLittle(rest[:4], counter)
	copy(rest[4:], nonce[:])
	first := chaStart(key, rest)
	var out [64]byte
	for i, w := range chaRounds(first) {
		putLittle(out[4*i:4*i+4], w+first[i])
	}
	return out
}

// HChaCha derives a key from a key and sixteen bytes, see chapter 3.
func HChaCha(key [32]byte, nonce [16]byte) [32]byte {
	w := chaRounds(chaStart(key, nonce))
	var out [32]byte
	for i := range 4 {
		putLittle(out[4*i:4*i+4], w[i])
		putLittle(out[16+4*i:20+4*i], w[12+i])
	}
	return out
}

// limbMask has the 26 bits of a limb.
const limbMask = 1<<26 - 1

// polyNumber is a number of the authenticator in limbs of 26 bits, the least first: small enough that sums of their
// products stay within 64 bits, and five of them meet the modulus' 130 bits.
type polyNumber [5]uint64

// polyLimbs cuts a number of five words into limbs; of the fifth word only the lowest bit can be set.
func polyLimbs(w [5]uint32) polyNumber {
	return polyNumber{
		uint64(w[0]) & limbMask,
		(uint64(w[0])>>26 | uint64(w[1])<<6) & limbMask,
		(uint64(w[1])>>20 | uint64(w[2])<<12) & limbMask,
		(uint64(w[2])>>14 | uint64(w[3])<<18) & limbMask,
		uint64(w[3])>>8 | uint64(w[4])<<24,
	}
}

// polyPiece is the number of a piece of 1 to 16 bytes followed by a byte 1.
func polyPiece(piece []byte) polyNumber {
	var w [5]uint32
	loadWords(w[:], piece)
	w[len(piece)/4] |= 1 << (8 * (len(piece) % 4))
	return polyLimbs(w)
}

// polyFactor is r: the key's first half with the bits taken out that the document cuts.
func polyFactor(key [32]byte) polyNumber {
	var w [5]uint32
	loadWords(w[:], key[:16])
	w[0] &= 0x0FFFFFFF
	for i := 1; i < 4; i++ {
		w[i] &= 0x0FFFFFFC
	}
	return polyLimbs(w)
}

func (a polyNumber) add(b polyNumber) polyNumber {
	for i := range a {
		a[i] += b[i]
	}
	return a
}

// times folds what passes 2^130 back as five times as much, since 2^130 is 5 modulo 2^130 - 5.
func (a polyNumber) times(b polyNumber) polyNumber {
	var sums polyNumber
	for i := range a {
		for j := range b {
			if i+j < 5 {
				sums[i+j] += a[i] * b[j]
			} else {
				sums[i+j-5] += 5 * a[i] * b[j]
			}
		}
	}
	return sums.carried()
}

// carried brings the limbs back to 26 bits, but for a few more that may be left in the second one.
func (a polyNumber) carried() polyNumber {
	var carry uint64
	for i := range a {
		a[i] += carry
		carry = a[i] >> 26
		a[i] &= limbMask
	}
	a[0] += 5 * carry
	a[1] += a[0] >> 26
	a[0] &= limbMask
	return a
}

// reduced is the least number of the same class. A second carrying leaves all limbs within 26 bits; then the number
// is the modulus or more just if five more reach 2^130.
func (a polyNumber) reduced() polyNumber {
	a = a.carried()
	less := a
	carry := uint64(5)
	for i := range less {
		less[i] += carry
		carry = less[i] >> 26
		less[i] &= limbMask
	}
	if carry > 0 {
		return less
	}
	return a
}

// halves are the low 128 bits of a reduced number, the lower 64 first.
func (a polyNumber) halves() (uint64, uint64) {
	return a[0] | a[1]<<26 | a[2]<<52, a[2]>>12 | a[3]<<14 | a[4]<<40
}

// Poly1305 is the one-time authenticator, see chapter 3.
func Poly1305(key [32]byte, data []byte) [16]byte {
	r := polyFactor(key)
	var acc polyNumber
	for len(data) > 0 {
		n := min(len(data), 16)
		acc = acc.add(polyPiece(data[:n])).times(r)
		data = data[n:]
	}
	low, high := acc.reduced().halves()
	var s [4]uint32
	loadWords(s[:], key[16:])
	low, carry := bits.Add64(low, uint64(s[0])|uint64(s[1])<<32, 0)
	high, _ = bits.Add64(high, uint64(s[2])|uint64(s[3])<<32, carry)
	var tag [tagSize]byte
	putLittle(tag[:8], low)
	putLittle(tag[8:], high)
	return tag
}

// streamed is the text XORed with the blocks from counter 1 on, with room behind it for a tag.
func streamed(key [32]byte, nonce [12]byte, text []byte) []byte {
	out := make([]byte, len(text), len(text)+tagSize)
	var block [64]byte
	for i := range text {
		if i%64 == 0 {
			block = ChaBlock(key, uint32(1+i/64), nonce)
		}
		out[i] = text[i] ^ block[i%64]
	}
	return out
}

// paddedTo16 lays the parts one behind the other, each followed by zeros up to a multiple of 16.
func paddedTo16(parts ...[]byte) []byte {
	var out []byte
	for _, part := range parts {
		out = append(out, part...)
		out = append(out, make([]byte, -len(part)&15)...)
	}
	return out
}

func boxTag(key [32]byte, nonce [12]byte, hidden, extra []byte) [tagSize]byte {
	var lengths [16]byte
	putLittle(lengths[:8], uint64(len(extra)))
	putLittle(lengths[8:], uint64(len(hidden)))
	block := ChaBlock(key, 0, nonce)
	return Poly1305([32]byte(block[:32]), paddedTo16(extra, hidden, lengths[:]))
}

// Seal encrypts and authenticates, see chapter 3.
func Seal(key [32]byte, nonce [12]byte, text, extra []byte) []byte {
	if len(text) > MaxData || len(extra) > MaxData {
		return nil
	}
	hidden := streamed(key, nonce, text)
	tag := boxTag(key, nonce, hidden, extra)
	return append(hidden, tag[:]...)
}

// Open checks and decrypts, see chapter 3.
func Open(key [32]byte, nonce [12]byte, box, extra []byte) ([]byte, bool) {
	size := len(box) - tagSize
	if size < 0 || size > MaxData || len(extra) > MaxData {
		return nil, false
	}
	hidden := box[:size]
	if boxTag(key, nonce, hidden, extra) != [tagSize]byte(box[size:]) {
		return nil, false
	}
	return streamed(key, nonce, hidden), true
}

// longNonce is the key and the nonce under which a nonce of 24 bytes seals.
func longNonce(key [32]byte, nonce [24]byte) ([32]byte, [12]byte) {
	var short [12]byte
	copy(short[4:], nonce[16:])
	return HChaCha(key, [16]byte(nonce[:16])), short
}

// XSeal is Seal with a nonce of 24 bytes, see chapter 3.
func XSeal(key [32]byte, nonce [24]byte, text, extra []byte) []byte {
	inner, short := longNonce(key, nonce)
	return Seal(inner, short, text, extra)
}

// XOpen is Open with a nonce of 24 bytes, see chapter 3.
func XOpen(key [32]byte, nonce [24]byte, box, extra []byte) ([]byte, bool) {
	inner, short := longNonce(key, nonce)
	return Open(inner, short, box, extra)
}
