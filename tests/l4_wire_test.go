package tests

import (
	"bytes"
	"math/rand"
	"testing"

	"loop.example/s02974/impl"
)

func someInitiation() impl.Initiation {
	b := filled(140)
	return impl.Initiation{Sender: 0xA1B2C3D4, Ephemeral: [32]byte(b), Static: [48]byte(b[32:]), Stamp: [28]byte(b[80:]),
		Mac1: [16]byte(b[108:]), Mac2: [16]byte(b[124:])}
}

func someReply() impl.Reply {
	b := filled(56)
	return impl.Reply{Receiver: 0xA1B2C3D4, Nonce: [24]byte(b), Box: [32]byte(b[24:])}
}

func initiationBytes(m impl.Initiation) []byte {
	b := impl.WriteInitiation(m)
	return b[:]
}

func replyBytes(r impl.Reply) []byte {
	b := impl.WriteReply(r)
	return b[:]
}

func TestInitiationAsBytes(t *testing.T) {
	m := someInitiation()
	want := bytes.Join([][]byte{{1, 0, 0, 0}, {0xD4, 0xC3, 0xB2, 0xA1}, filled(140)}, nil)
	if got := initiationBytes(m); !bytes.Equal(got, want) {
		t.Errorf("written: got %x, want %x", got, want)
	}
	if got, ok := impl.ParseInitiation(want); !ok || got != m {
		t.Errorf("read: %v %x", ok, got)
	}
	if got := initiationBytes(impl.Initiation{}); !bytes.Equal(got, append([]byte{1}, make([]byte, 147)...)) {
		t.Errorf("the zero initiation: %x", got)
	}
}

func TestReplyAsBytes(t *testing.T) {
	r := someReply()
	want := bytes.Join([][]byte{{3, 0, 0, 0}, {0xD4, 0xC3, 0xB2, 0xA1}, filled(56)}, nil)
	if got := replyBytes(r); !bytes.Equal(got, want) {
		t.Errorf("written: got %x, want %x", got, want)
	}
	if got, ok := impl.ParseReply(want); !ok || got != r {
		t.Errorf("read: %v %x", ok, got)
	}
	if got := replyBytes(impl.Reply{}); !bytes.Equal(got, append([]byte{3}, make([]byte, 63)...)) {
		t.Errorf("the zero reply: %x", got)
	}
}

// What is read is written back as it is, whatever stands behind the head, and lies apart from what was read.
func TestDatagramsThereAndBack(t *testing.T) {
	r := rand.New(rand.NewSource(8))
	for range 200 {
		b := make([]byte, 148)
		r.Read(b)
		copy(b, []byte{1, 0, 0, 0})
		arg := watch(b)
		m, ok := impl.ParseInitiation(arg.b)
		arg.check(t, "the initiation")
		arg.spoil()
		if !ok || !bytes.Equal(initiationBytes(m), b) {
			t.Errorf("initiation %x: %v, back as %x", b, ok, initiationBytes(m))
		}
		b = b[:64]
		b[0] = 3
		arg = watch(b)
		reply, ok := impl.ParseReply(arg.b)
		arg.check(t, "the reply")
		arg.spoil()
		if !ok || !bytes.Equal(replyBytes(reply), b) {
			t.Errorf("reply %x: %v, back as %x", b, ok, replyBytes(reply))
		}
	}
}

// refuse wants both readers to answer zero and false.
func refuse(t *testing.T, b []byte, what string, args ...any) {
	t.Helper()
	arg := watch(b)
	if m, ok := impl.ParseInitiation(arg.b); ok || m != (impl.Initiation{}) {
		t.Errorf("initiation, "+what+": %v %x", append(args, ok, m)...)
	}
	if r, ok := impl.ParseReply(arg.b); ok || r != (impl.Reply{}) {
		t.Errorf("reply, "+what+": %v %x", append(args, ok, r)...)
	}
	arg.check(t, what)
}

func TestDatagramsOfOtherLengths(t *testing.T) {
	refuse(t, nil, "nil")
	initiation := append(initiationBytes(someInitiation()), filled(1000)...)
	reply := append(replyBytes(someReply()), filled(1000)...)
	for n := range 1000 {
		if n != 148 {
			refuse(t, initiation[:n], "%d bytes of an initiation", n)
		}
		if n != 64 {
			refuse(t, reply[:n], "%d bytes of a reply", n)
		}
	}
}

func TestDatagramsWithOtherHeads(t *testing.T) {
	for place := range 4 {
		for value := range 256 {
			b := initiationBytes(someInitiation())
			if b[place] != byte(value) {
				b[place] = byte(value)
				refuse(t, b, "byte %d is %d", place, value)
			}
			b = replyBytes(someReply())
			if b[place] != byte(value) {
				b[place] = byte(value)
				refuse(t, b, "byte %d is %d", place, value)
			}
		}
	}
	refuse(t, append([]byte{0, 0, 0, 1}, filled(144)...), "the kind big-endian")
	refuse(t, append([]byte{0, 0, 0, 3}, filled(60)...), "the kind big-endian")
}

func TestSourceAsBytes(t *testing.T) {
	addr := [16]byte(filled(16))
	other := addr
	copy(other[4:], repeated(0xEE, 12))
	for _, c := range []struct {
		source impl.Source
		want   []byte
	}{
		{impl.Source{}, make([]byte, 6)},
		{impl.Source{V6: true}, make([]byte, 18)},
		{impl.Source{Addr: addr, Port: 0x1234}, append(filled(4), 0x12, 0x34)},
		{impl.Source{Addr: other, Port: 0x1234}, append(filled(4), 0x12, 0x34)},
		{impl.Source{V6: true, Addr: addr, Port: 0x1234}, append(filled(16), 0x12, 0x34)},
		{impl.Source{V6: true, Addr: other, Port: 0x1234}, append(append(filled(4), repeated(0xEE, 12)...), 0x12, 0x34)},
		{impl.Source{Port: 1}, []byte{0, 0, 0, 0, 0, 1}},
		{impl.Source{Port: 255}, []byte{0, 0, 0, 0, 0, 255}},
		{impl.Source{Port: 256}, []byte{0, 0, 0, 0, 1, 0}},
		{impl.Source{Port: 65535}, []byte{0, 0, 0, 0, 255, 255}},
		{impl.Source{V6: true, Port: 256}, append(make([]byte, 16), 1, 0)},
	} {
		if got := impl.WriteSource(c.source); !bytes.Equal(got, c.want) {
			t.Errorf("%v: got %x, want %x", c.source, got, c.want)
		}
	}
}

func TestSourceBytesAreNew(t *testing.T) {
	for _, v6 := range []bool{false, true} {
		s := impl.Source{V6: v6, Addr: [16]byte(filled(16)), Port: 7}
		first, second := impl.WriteSource(s), impl.WriteSource(s)
		want := bytes.Clone(first)
		for i := range first {
			first[i] ^= 0xFF
		}
		if !bytes.Equal(second, want) || !bytes.Equal(impl.WriteSource(s), want) {
			t.Errorf("two answers share memory: %x", second)
		}
	}
}

func TestLimitKey(t *testing.T) {
	addr := [16]byte(filled(16))
	behind4, behind8 := addr, addr
	copy(behind4[4:], repeated(0xEE, 12))
	copy(behind8[8:], repeated(0xEE, 8))
	for _, c := range []struct {
		source impl.Source
		want   []byte
	}{
		{impl.Source{}, []byte{4, 0, 0, 0, 0, 0, 0, 0, 0}},
		{impl.Source{V6: true}, []byte{6, 0, 0, 0, 0, 0, 0, 0, 0}},
		{impl.Source{Addr: addr, Port: 0x1234}, append(append([]byte{4}, filled(4)...), 0, 0, 0, 0)},
		{impl.Source{Addr: behind4}, append(append([]byte{4}, filled(4)...), 0, 0, 0, 0)},
		{impl.Source{V6: true, Addr: addr, Port: 0x1234}, append([]byte{6}, filled(8)...)},
		{impl.Source{V6: true, Addr: behind8}, append([]byte{6}, filled(8)...)},
		{impl.Source{V6: true, Addr: behind4}, append(append([]byte{6}, filled(4)...), 0xEE, 0xEE, 0xEE, 0xEE)},
	} {
		if got := impl.LimitKey(c.source); got != [9]byte(c.want) {
			t.Errorf("%v: got %x, want %x", c.source, got, c.want)
		}
	}
}
