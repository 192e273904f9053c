package tests

import (
	"bytes"
	"encoding/hex"
	"testing"
)

// filled is n bytes of a pattern that no block length divides.
func filled(n int) []byte {
	b := make([]byte, n)
	for i := range b {
		b[i] = byte((7*i + 1) % 251)
	}
	return b
}

func repeated(value byte, n int) []byte {
	return bytes.Repeat([]byte{value}, n)
}

func fromHex(s string) []byte {
	b, err := hex.DecodeString(s)
	if err != nil {
		panic(err)
	}
	return b
}

func wantHex(t *testing.T, got []byte, want, what string, args ...any) {
	t.Helper()
	if hex.EncodeToString(got) != want {
		t.Errorf(what+": got %x, want %s", append(args, got, want)...)
	}
}

// watched is an argument with room behind it, so that a write into it or into its room is seen.
type watched struct {
	b, whole, before []byte
}

func watch(b []byte) watched {
	whole := append(append([]byte{}, b...), repeated(0xA5, 100)...)
	return watched{whole[:len(b)], whole, append([]byte{}, whole...)}
}

func (w watched) check(t *testing.T, what string) {
	t.Helper()
	if !bytes.Equal(w.whole, w.before) {
		t.Errorf("%s was written into", what)
	}
}

// spoil writes over the argument, to see whether an answer shares it.
func (w watched) spoil() {
	for i := range w.whole {
		w.whole[i] ^= 0xFF
	}
}
