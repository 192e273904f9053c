package tests

import (
	"bytes"
	"math/rand"
	"testing"

	"loop.example/s02974/impl"
)

// joined is the parts one behind the other.
func joined(parts ...[]byte) []byte {
	return bytes.Join(parts, nil)
}

// macOf is the mac under the key that the label makes of the public key.
func macOf(label string, public [32]byte, data []byte) [16]byte {
	key := impl.Hash(joined([]byte(label), public[:]))
	return impl.Mac(key[:], data)
}

func cookie16(r *rand.Rand) [16]byte {
	return [16]byte(someBytes(r, 16))
}

func someBytes(r *rand.Rand, n int) []byte {
	b := make([]byte, n)
	r.Read(b)
	return b
}

func randomInitiation(r *rand.Rand) impl.Initiation {
	m, _ := impl.ParseInitiation(joined([]byte{1, 0, 0, 0}, someBytes(r, 144)))
	return m
}

func TestCookieOf(t *testing.T) {
	r := rand.New(rand.NewSource(4))
	for range 50 {
		secret, addr := randomKey(r), [16]byte(someBytes(r, 16))
		got := impl.CookieOf(secret, impl.Source{Addr: addr, Port: 0x1234})
		if got != impl.Mac(secret[:], joined(addr[:4], []byte{0x12, 0x34})) {
			t.Errorf("version 4: %x", got)
		}
		got = impl.CookieOf(secret, impl.Source{V6: true, Addr: addr, Port: 0x1234})
		if got != impl.Mac(secret[:], joined(addr[:], []byte{0x12, 0x34})) {
			t.Errorf("version 6: %x", got)
		}
	}
}

// Known answers, computed apart from this program.
func TestCookieOfKnownAnswers(t *testing.T) {
	secret := [32]byte(filled(32))
	four := impl.CookieOf(secret, impl.Source{Addr: [16]byte{192, 0, 2, 1}, Port: 51820})
	wantHex(t, four[:], "63818514159cb7eb90edfbff25c7ba2c", "version 4")
	six := impl.CookieOf(secret, impl.Source{V6: true, Addr: [16]byte{0x20, 1, 0xd, 0xb8, 15: 1}, Port: 51820})
	wantHex(t, six[:], "bd4aa66612c9b4d6816ed26c8a583dfc", "version 6")
}

// Every byte of the secret, of the address that counts and of the port makes another cookie; the rest doesn't.
func TestCookieOfEachByte(t *testing.T) {
	secret, addr := [32]byte(filled(32)), [16]byte(filled(16))
	for _, v6 := range []bool{false, true} {
		source := impl.Source{V6: v6, Addr: addr, Port: 0x1234}
		first := impl.CookieOf(secret, source)
		for i := range secret {
			other := secret
			other[i] ^= 1
			if impl.CookieOf(other, source) == first {
				t.Errorf("byte %d of the secret doesn't matter", i)
			}
		}
		for i := range addr {
			other := source
			other.Addr[i] ^= 1
			if counts := v6 || i < 4; (impl.CookieOf(secret, other) != first) != counts {
				t.Errorf("byte %d of the address, %v", i, v6)
			}
		}
		for _, port := range []uint16{0x1235, 0x1334, 0x3412, 0} {
			if impl.CookieOf(secret, impl.Source{V6: v6, Addr: addr, Port: port}) == first {
				t.Errorf("port %x has the cookie of another", port)
			}
		}
		source.V6 = !v6
		if impl.CookieOf(secret, source) == first {
			t.Errorf("the versions have one cookie")
		}
	}
}

func TestStampMacs(t *testing.T) {
	r := rand.New(rand.NewSource(5))
	for range 100 {
		m, public, cookie := randomInitiation(r), randomKey(r), cookie16(r)
		want := m
		want.Mac1 = macOf("mac1----", public, initiationBytes(m)[:116])
		want.Mac2 = [16]byte{}
		if got := impl.StampMacs(m, public, false, cookie); got != want {
			t.Errorf("without a cookie: got %x, want %x", got, want)
		}
		want.Mac2 = impl.Mac(cookie[:], joined(initiationBytes(m)[:116], want.Mac1[:]))
		if got := impl.StampMacs(m, public, true, cookie); got != want {
			t.Errorf("with a cookie: got %x, want %x", got, want)
		}
		if again := impl.StampMacs(want, public, true, cookie); again != want {
			t.Errorf("stamped twice: got %x, want %x", again, want)
		}
	}
}

// A cookie of zeros is a cookie like others, and a cookie that there isn't doesn't matter.
func TestStampMacsWithoutACookie(t *testing.T) {
	m, public := someInitiation(), [32]byte(filled(32))
	none := impl.StampMacs(m, public, false, [16]byte{})
	if impl.StampMacs(m, public, false, [16]byte{7}) != none {
		t.Errorf("the cookie matters where there is none")
	}
	zeros := impl.StampMacs(m, public, true, [16]byte{})
	if zeros.Mac2 == [16]byte{} || zeros.Mac2 != impl.Mac(make([]byte, 16), initiationBytes(zeros)[:132]) {
		t.Errorf("a cookie of zeros: %x", zeros.Mac2)
	}
}

// Known answers, computed apart from this program.
func TestStampMacsKnownAnswers(t *testing.T) {
	m := impl.StampMacs(someInitiation(), [32]byte(filled(32)), true, [16]byte(filled(16)))
	wantHex(t, m.Mac1[:], "089b32cee65360fbd40f64a4dba3b364", "the first mac")
	wantHex(t, m.Mac2[:], "55d3fb7b7d79d8d541b2c4d84226ee09", "the second mac")
}

func wantCheck(t *testing.T, what string, m impl.Initiation, public [32]byte, cookie [16]byte, one, two bool) {
	t.Helper()
	if gotOne, gotTwo := impl.CheckMacs(m, public, cookie); gotOne != one || gotTwo != two {
		t.Errorf("%s: got %v %v, want %v %v", what, gotOne, gotTwo, one, two)
	}
}

// All four ways in which two macs can be right and wrong; Mac2 is that of the Mac1 that is there, a wrong one too.
func TestCheckMacs(t *testing.T) {
	r := rand.New(rand.NewSource(6))
	for range 50 {
		public, cookie := randomKey(r), cookie16(r)
		right := impl.StampMacs(randomInitiation(r), public, true, cookie)
		wantCheck(t, "both right", right, public, cookie, true, true)
		m := right
		m.Mac2[r.Intn(16)] ^= 1 << r.Intn(8)
		wantCheck(t, "the second changed", m, public, cookie, true, false)
		m = right
		m.Mac1[r.Intn(16)] ^= 1 << r.Intn(8)
		wantCheck(t, "the first changed", m, public, cookie, false, false)
		m.Mac2 = impl.Mac(cookie[:], initiationBytes(m)[:132])
		wantCheck(t, "the first changed, the second anew", m, public, cookie, false, true)
		wantCheck(t, "another cookie", right, public, cookie16(r), true, false)
		wantCheck(t, "another key", right, randomKey(r), cookie, false, true)
		wantCheck(t, "another key and cookie", right, randomKey(r), cookie16(r), false, false)
		without := impl.StampMacs(right, public, false, cookie)
		wantCheck(t, "without a cookie", without, public, cookie, true, false)
		wantCheck(t, "without a cookie, one of zeros", without, public, [16]byte{}, true, false)
	}
	wantCheck(t, "zeros", impl.Initiation{}, [32]byte{}, [16]byte{}, false, false)
}

// Every bit of the macs, and every byte ahead of them behind the head, counts.
func TestCheckMacsOfEachByte(t *testing.T) {
	public, cookie := [32]byte(filled(32)), [16]byte(filled(16))
	b := initiationBytes(impl.StampMacs(someInitiation(), public, true, cookie))
	for i := 4; i < 148; i++ {
		for bit := range 8 {
			changed := bytes.Clone(b)
			changed[i] ^= 1 << bit
			m, _ := impl.ParseInitiation(changed)
			wantCheck(t, "a bit changed", m, public, cookie, i >= 132, false)
		}
	}
	m, _ := impl.ParseInitiation(b)
	for i := range public {
		other := public
		other[i] ^= 0x80
		wantCheck(t, "a byte of the key", m, other, cookie, false, true)
	}
	for i := range cookie {
		other := cookie
		other[i] ^= 0x80
		wantCheck(t, "a byte of the cookie", m, public, other, true, false)
	}
}

func TestMakeReply(t *testing.T) {
	r := rand.New(rand.NewSource(7))
	for range 50 {
		m, public, cookie, nonce := randomInitiation(r), randomKey(r), cookie16(r), [24]byte(someBytes(r, 24))
		key := impl.Hash(joined([]byte("cookie--"), public[:]))
		box := impl.XSeal(key, nonce, cookie[:], m.Mac1[:])
		want := impl.Reply{Receiver: m.Sender, Nonce: nonce, Box: [32]byte(box)}
		if got := impl.MakeReply(m, public, cookie, nonce); got != want {
			t.Errorf("got %x, want %x", got, want)
		}
		other := randomInitiation(r)
		other.Sender, other.Mac1 = m.Sender, m.Mac1
		if got := impl.MakeReply(other, public, cookie, nonce); got != want {
			t.Errorf("more than sender and first mac matters: %x", got)
		}
	}
}

// A known answer, computed apart from this program.
func TestMakeReplyKnownAnswer(t *testing.T) {
	got := impl.MakeReply(someInitiation(), [32]byte(filled(32)), [16]byte(repeated(7, 16)), [24]byte(filled(24)))
	wantHex(t, got.Box[:], "0fcb623d64b9f6653636f9979d7e9cfe1ad6699cc1cc8b6f8dad24f12f002a58", "the box")
}

func wantOpened(t *testing.T, what string, r impl.Reply, public [32]byte, mac1, cookie [16]byte, ok bool) {
	t.Helper()
	if got, gotOk := impl.OpenReply(r, public, mac1); gotOk != ok || got != cookie {
		t.Errorf("%s: got %x %v, want %x %v", what, got, gotOk, cookie, ok)
	}
}

func TestOpenReply(t *testing.T) {
	r := rand.New(rand.NewSource(9))
	none := [16]byte{}
	for range 50 {
		m, public, cookie, nonce := randomInitiation(r), randomKey(r), cookie16(r), [24]byte(someBytes(r, 24))
		reply := impl.MakeReply(m, public, cookie, nonce)
		wantOpened(t, "as it was made", reply, public, m.Mac1, cookie, true)
		wantOpened(t, "a first mac of another", reply, public, cookie16(r), none, false)
		wantOpened(t, "the second mac", reply, public, m.Mac2, none, false)
		wantOpened(t, "a key of another", reply, randomKey(r), m.Mac1, none, false)
		reply.Receiver++
		wantOpened(t, "for another receiver", reply, public, m.Mac1, cookie, true)
		read, _ := impl.ParseReply(replyBytes(reply))
		wantOpened(t, "there and back", read, public, m.Mac1, cookie, true)
	}
	wantOpened(t, "zeros", impl.Reply{}, [32]byte{}, none, none, false)
	zeros := impl.MakeReply(impl.Initiation{}, [32]byte{}, none, [24]byte{})
	wantOpened(t, "a cookie of zeros", zeros, [32]byte{}, none, none, true)
}

// Every byte of the first mac, the key, the nonce and the box counts.
func TestOpenReplyOfEachByte(t *testing.T) {
	m, public, cookie := someInitiation(), [32]byte(filled(32)), [16]byte(repeated(7, 16))
	reply := impl.MakeReply(m, public, cookie, [24]byte(filled(24)))
	none := [16]byte{}
	for bit := range 8 {
		for i := range m.Mac1 {
			mac1 := m.Mac1
			mac1[i] ^= 1 << bit
			wantOpened(t, "another first mac", reply, public, mac1, none, false)
		}
		for i := range public {
			other := public
			other[i] ^= 1 << bit
			wantOpened(t, "another key", reply, other, m.Mac1, none, false)
		}
		for i := range reply.Nonce {
			changed := reply
			changed.Nonce[i] ^= 1 << bit
			wantOpened(t, "a changed nonce", changed, public, m.Mac1, none, false)
		}
		for i := range reply.Box {
			changed := reply
			changed.Box[i] ^= 1 << bit
			wantOpened(t, "a changed box", changed, public, m.Mac1, none, false)
		}
	}
}
