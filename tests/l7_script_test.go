package tests

import (
	"reflect"
	"testing"

	"loop.example/s02974/impl"
)

// The document's numbers, not the program's.
const (
	age      = 120000000000
	loadTime = 1000000000
	greatest = 1<<63 - 1
)

var (
	placeA = impl.Source{Addr: [16]byte{10, 0, 0, 1}, Port: 7}
	placeB = impl.Source{Addr: [16]byte{10, 0, 0, 2}, Port: 7}
	placeC = impl.Source{V6: true, Addr: [16]byte{0x20, 1, 0xd, 0xb8, 15: 1}, Port: 65535}
)

// The operations of a script, their kinds being the document's numbers.

func arrive(src impl.Source, data []byte) impl.Op { return impl.Op{Kind: 1, Src: src, Data: data} }
func drain() impl.Op                              { return impl.Op{Kind: 2} }
func tick(n int) impl.Op                          { return impl.Op{Kind: 3, N: n} }
func draw(b []byte) impl.Op                       { return impl.Op{Kind: 4, Data: b} }
func restart() impl.Op                            { return impl.Op{Kind: 5} }
func start(n int) impl.Op                         { return impl.Op{Kind: 6, N: n} }
func deliver(n int) impl.Op                       { return impl.Op{Kind: 7, N: n} }
func drop(n int) impl.Op                          { return impl.Op{Kind: 8, N: n} }

// drawNumber is the bytes of draw number n, each another in all parts that count.
func drawNumber(n int) [32]byte {
	return impl.Hash([]byte{byte(n), byte(n >> 8)})
}

// draws is the operations of n draws, numbered from 1.
func draws(n int) []impl.Op {
	var out []impl.Op
	for k := 1; k <= n; k++ {
		b := drawNumber(k)
		out = append(out, draw(b[:]))
	}
	return out
}

func times(n int, ops ...impl.Op) []impl.Op {
	var out []impl.Op
	for range n {
		out = append(out, ops...)
	}
	return out
}

// script is operations, and lists of them, one behind the other.
func script(parts ...any) []impl.Op {
	var out []impl.Op
	for _, part := range parts {
		switch x := part.(type) {
		case impl.Op:
			out = append(out, x)
		case []impl.Op:
			out = append(out, x...)
		default:
			panic("no part of a script")
		}
	}
	return out
}

// The keys of the gate and of the clients that most scripts have.

func gatePair() keyPair         { return pairOf([32]byte{1, 2, 3}) }
func clientPair(n byte) keyPair { return pairOf([32]byte{8 * n, 5}) }
func cookieAt(n int, src impl.Source) *[16]byte {
	c := impl.CookieOf(drawNumber(n), src)
	return &c
}

// house is a gate with three clients, of which two are known.
func house(queue int) impl.Config {
	return impl.Config{Private: gatePair().private, Queue: queue, Table: 100, Clients: []impl.Client{
		{Private: clientPair(1).private, Src: placeA, Known: true},
		{Private: clientPair(2).private, Src: placeB},
		{Private: clientPair(3).private, Src: placeC, Known: true},
	}}
}

// knock is an initiation of client n to the gate, made apart from a script.
type knock struct {
	n      byte
	at     int
	sender uint32
	cookie *[16]byte
}

func (k knock) created() impl.Created {
	mine := clientPair(k.n)
	return impl.CreateInit(mine.private, mine.public, gatePair().public, drawNumber(1000+k.at%7), k.sender, impl.TaiOf(k.at), 0)
}

func (k knock) bytes() []byte {
	return stamped(k.created().Msg, k.cookie)
}

// stamped is the bytes of an initiation with its macs, the second if there is a cookie.
func stamped(m impl.Initiation, cookie *[16]byte) []byte {
	if cookie == nil {
		return initiationBytes(impl.StampMacs(m, gatePair().public, false, [16]byte{}))
	}
	return initiationBytes(impl.StampMacs(m, gatePair().public, true, *cookie))
}

// noise is a packet with a right Mac1, but no key of a peer in it.
func noise(cookie *[16]byte) []byte {
	return stamped(impl.Initiation{Sender: 77, Ephemeral: [32]byte{9}}, cookie)
}

// obsOf is the verdict alone.
func obsOf(verdict int) impl.Obs {
	return impl.Obs{Verdict: verdict}
}

func sameObs(a, b impl.Obs) bool {
	if len(a.Out) == 0 && len(b.Out) == 0 {
		a.Out, b.Out = nil, nil
	}
	return reflect.DeepEqual(a, b)
}

// wantObs holds what is seen of the last operations against all that should be seen of them.
func wantObs(t *testing.T, what string, r impl.Report, want ...impl.Obs) {
	t.Helper()
	if r.Code != 0 || len(r.Obs) < len(want) {
		t.Errorf("%s: code %d and %d observations", what, r.Code, len(r.Obs))
		return
	}
	total := 0
	for _, o := range r.Obs {
		total += o.Dh
	}
	if r.Dh != total {
		t.Errorf("%s: %d multiplications in all, %d told one by one", what, r.Dh, total)
	}
	for i, o := range r.Obs[len(r.Obs)-len(want):] {
		if !sameObs(o, want[i]) {
			t.Errorf("%s, observation %d of the last: got %v, want %v", what, i, o, want[i])
		}
	}
}

// wantVerdicts holds the last verdicts alone against what they should be.
func wantVerdicts(t *testing.T, what string, r impl.Report, want ...int) {
	t.Helper()
	if r.Code != 0 || len(r.Obs) < len(want) {
		t.Errorf("%s: code %d and %d observations", what, r.Code, len(r.Obs))
		return
	}
	for i, o := range r.Obs[len(r.Obs)-len(want):] {
		if o.Verdict != want[i] {
			t.Errorf("%s, observation %d of the last: verdict %d, want %d", what, i, o.Verdict, want[i])
		}
	}
}
