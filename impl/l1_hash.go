package impl

import "math/bits"

// Limits and labels, see chapter 1.
const (
	MaxData = 65536

	LabelConstruction = "IK 25519 ChaChaPoly BLAKE2s"
	LabelIdentifier   = "front gate of a responder, first form"
	LabelMac1         = "mac1----"
	LabelCookie       = "cookie--"
)

// blakeStart is the document's IV.
var blakeStart = [8]uint32{
	0x6A09E667, 0xBB67AE85, 0x3C6EF372, 0xA54FF53A,
	0x510E527F, 0x9B05688C, 0x1F83D9AB, 0x5BE0CD19,
}

// blakeOrder is the document's table s: a row a round.
var blakeOrder = [10][16]uint8{
	{0, 1, 2, 3, 4, 5, 6, 7, 8, 9, 10, 11, 12, 13, 14, 15},
	{14, 10, 4, 8, 9, 15, 13, 6, 1, 12, 0, 2, 11, 7, 5, 3},
	{11, 8, 12, 0, 5, 2, 15, 13, 10, 14, 3, 6, 7, 1, 9, 4},
	{7, 9, 3, 1, 13, 12, 11, 14, 2, 6, 5, 10, 4, 0, 15, 8},
	{9, 0, 5, 7, 2, 4, 10, 15, 14, 1, 11, 12, 6, 8, 3, 13},
	{2, 12, 6, 10, 0, 11, 8, 3, 4, 13, 7, 5, 15, 14, 1, 9},
	{12, 5, 1, 15, 14, 13, 4, 10, 0, 7, 6, 3, 9, 2, 8, 11},
	{13, 11, 7, 14, 12, 1, 3, 9, 5, 0, 15, 4, 8, 6, 2, 10},
	{6, 15, 14, 9, 11, 3, 0, 8, 12, 2, 13, 7, 1, 4, 10, 5},
	{10, 2, 8, 4, 7, 6, 1, 5, 15, 11, 9, 14, 3, 12, 13, 0},
}

// mixPlaces names the four words of each mixing; the hash and the block function of chapter 3 share it.
var mixPlaces = [8][4]uint8{
	{0, 4, 8, 12}, {1, 5, 9, 13}, {2, 6, 10, 14}, {3, 7, 11, 15},
	{0, 5, 10, 15}, {1, 6, 11, 12}, {2, 7, 8, 13}, {3, 4, 9, 14},
}

// unsigned are the integers that putLittle lays down.
type unsigned interface {
	~uint8 | ~uint16 | ~uint32 | ~uint64
}

// putLittle lays the value down little-endian over the whole of out, whose length is the width.
func putLittle[T unsigned](out []byte, value T) {
	for i := range out {
		out[i] = byte(value >> (8 * i))
	}
}

// tailWord is the word of the last bytes, fewer than four, that fill no whole word.
func tailWord(b []byte) uint32 {
	var w uint32
	switch len(b) {
	case 3:
		w |= uint32(b[2]) << 16
		fallthrough
	case 2:
		w |= uint32(b[1]) << 8
		fallthrough
	case 1:
		w |= uint32(b[0])
	}
	return w
}

// loadWords reads b, at most four bytes for each word of out, as if zeros followed it; words of out past its end stay.
func loadWords(out []uint32, b []byte) {
	whole := len(b) / 4
	for i := range whole {
		out[i] = uint32(b[4*i]) | uint32(b[4*i+1])<<8 | uint32(b[4*i+2])<<16 | uint32(b[4*i+3])<<24
	}
	if whole < len(out) {
		out[whole] = tailWord(b[4*whole:])
	}
}

// hashState is a hash under way. Its block is kept until more input comes, since only then it is known not to be the last.
type hashState struct {
	words [8]uint32
	count uint64
	block [64]byte
	fill  int
}

func startHash(size int, key []byte) hashState {
	s := hashState{words: blakeStart}
	s.words[0] ^= 0x01010000 ^ uint32(len(key))<<8 ^ uint32(size)
	if len(key) > 0 {
		var block [64]byte
		copy(block[:], key)
		s = s.absorb(block[:])
	}
	return s
}

// absorb takes the parts one behind the other.
func (s hashState) absorb(parts ...[]byte) hashState {
	for _, part := range parts {
		s = s.absorbPart(part)
	}
	return s
}

func (s hashState) absorbPart(part []byte) hashState {
	for len(part) > 0 {
		if s.fill == len(s.block) {
			s = s.compress(false)
		}
		n := copy(s.block[s.fill:], part)
		s.fill += n
		part = part[n:]
	}
	return s
}

func (s hashState) compress(last bool) hashState {
	s.count += uint64(s.fill)
	var m [16]uint32
	loadWords(m[:], s.block[:s.fill])
	v := s.workWords(last)
	for r := range 10 {
		v = blakeRound(v, m, r)
	}
	for i := range 8 {
		s.words[i] ^= v[i] ^ v[i+8]
	}
	s.fill = 0
	return s
}

func (s hashState) workWords(last bool) [16]uint32 {
	var v [16]uint32
	for i := range 8 {
		v[i] = s.words[i]
		v[i+8] = blakeStart[i]
	}
	v[12] ^= uint32(s.count)
	v[13] ^= uint32(s.count >> 32)
	if last {
		v[14] ^= 0xFFFFFFFF
	}
	return v
}

func blakeRound(v, m [16]uint32, r int) [16]uint32 {
	for i := range 8 {
		p := mixPlaces[i]
		x, y := m[blakeOrder[r][2*i]], m[blakeOrder[r][2*i+1]]
		v[p[0]], v[p[1]], v[p[2]], v[p[3]] = blakeMix(v[p[0]], v[p[1]], v[p[2]], v[p[3]], x, y)
	}
	return v
}

func blakeMix(a, b, c, d, x, y uint32) (uint32, uint32, uint32, uint32) {
	a += b + x
	d = bits.RotateLeft32(d^a, -16)
	c += d
	b = bits.RotateLeft32(b^c, -12)
	a += b + y
	d = bits.RotateLeft32(d^a, -8)
	c += d
	b = bits.RotateLeft32(b^c, -7)
	return a, b, c, d
}

// finish answers all 32 bytes; who asked for fewer takes the first ones.
func (s hashState) finish() [32]byte {
	s = s.compress(true)
	var out [32]byte
	for i, w := range s.words {
		putLittle(out[4*i:4*i+4], w)
	}
	return out
}

// blake hashes the parts one behind the other; the key has at most 32 bytes.
func blake(size int, key []byte, parts ...[]byte) [32]byte {
	return startHash(size, key).absorb(parts...).finish()
}

// hashOf is Hash of the parts one behind the other.
func hashOf(parts ...[]byte) [32]byte {
	return blake(32, nil, parts...)
}

// hmacOf is Hmac of the parts one behind the other.
func hmacOf(key []byte, parts ...[]byte) [32]byte {
	var inner, outer [64]byte
	if len(key) > len(inner) {
		short := hashOf(key)
		key = short[:]
	}
	copy(inner[:], key)
	copy(outer[:], key)
	for i := range inner {
		inner[i] ^= 0x36
		outer[i] ^= 0x5C
	}
	sum := startHash(32, nil).absorb(inner[:]).absorb(parts...).finish()
	return hashOf(outer[:], sum[:])
}

// Hash is BLAKE2s with 32 bytes of answer, see chapter 2.
func Hash(data []byte) [32]byte {
	return hashOf(data)
}

// Mac is keyed BLAKE2s with 16 bytes of answer, see chapter 2.
func Mac(key, data []byte) [16]byte {
	if len(key) > 32 {
		return [16]byte{}
	}
	sum := blake(16, key, data)
	return [16]byte(sum[:16])
}

// Hmac is the nested hash under a key, see chapter 2.
func Hmac(key, data []byte) [32]byte {
	return hmacOf(key, data)
}

// Kdf derives n keys, see chapter 2.
func Kdf(n int, key, input []byte) [][32]byte {
	if n < 1 || n > 3 {
		return nil
	}
	root := hmacOf(key, input)
	keys := make([][32]byte, n)
	keys[0] = hmacOf(root[:], []byte{1})
	for i := 1; i < n; i++ {
		keys[i] = hmacOf(root[:], keys[i-1][:], []byte{byte(i + 1)})
	}
	return keys
}
