package tests

import (
	"bytes"
	"math"
	"math/rand"
	"slices"
	"strconv"
	"strings"
	"testing"

	"loop.example/s02974/impl"
)

func wantTold(t *testing.T, what string, r impl.Report, want string) {
	t.Helper()
	before := copied(r.Obs)
	if got := string(impl.TellReport(r)); got != want {
		t.Errorf("%s: got %q, want %q", what, got, want)
	}
	for i := range before {
		if !sameObs(before[i], r.Obs[i]) {
			t.Errorf("%s: observation %d was written into", what, i)
		}
	}
}

func seen(obs ...impl.Obs) impl.Report {
	return impl.Report{Obs: obs}
}

func TestTellNothing(t *testing.T) {
	wantTold(t, "zero", impl.Report{}, "0 0\n")
	wantTold(t, "an empty list", impl.Report{Obs: []impl.Obs{}, Code: 1}, "1 0\n")
	wantTold(t, "zeros", seen(impl.Obs{}, impl.Obs{}), "0 0\n0 0 0 0\n0 0 0 0\n")
}

func TestTellNumbers(t *testing.T) {
	for _, n := range []int{0, 1, 9, 10, -1, -10, 999999999999999999, 1000000000000000000, math.MaxInt, math.MinInt, -math.MaxInt, math.MaxInt32 + 1} {
		s := strconv.Itoa(n)
		wantTold(t, "a code", impl.Report{Code: n}, s+" 0\n")
		wantTold(t, "multiplications", impl.Report{Dh: n}, "0 "+s+"\n")
		wantTold(t, "a verdict", seen(impl.Obs{Verdict: n}), "0 0\n"+s+" 0 0 0\n")
		wantTold(t, "multiplications in one", seen(impl.Obs{Dh: n}), "0 0\n0 "+s+" 0 0\n")
		wantTold(t, "a client", seen(impl.Obs{Client: n}), "0 0\n0 0 0 "+s+"\n")
	}
	wantTold(t, "each another", impl.Report{Code: 1, Dh: 2, Obs: []impl.Obs{{Verdict: 3, Dh: 4, Load: true, Client: 5}}}, "1 2\n3 4 1 5\n")
	wantTold(t, "the least", impl.Report{Code: math.MinInt}, "-9223372036854775808 0\n")
}

// Where there is no datagram its source isn't told; where there is one, it is told whatever the verdict.
func TestTellDatagrams(t *testing.T) {
	wantTold(t, "no datagram", seen(impl.Obs{To: placeC}, impl.Obs{To: placeA, Out: []byte{}}), "0 0\n0 0 0 0\n0 0 0 0\n")
	wantTold(t, "to nowhere", seen(impl.Obs{Out: []byte{0}}), "0 0\n0 0 0 0 4:00000000:0 00\n")
	rest := placeA
	rest.Addr[4], rest.Addr[15] = 1, 2
	wantTold(t, "version 4", seen(impl.Obs{To: rest, Out: []byte{0xAB, 0xC, 0xFF}}), "0 0\n0 0 0 0 4:0a000001:7 ab0cff\n")
	wantTold(t, "version 6", seen(impl.Obs{To: placeC, Out: []byte{1}}), "0 0\n0 0 0 0 6:20010db8000000000000000000000001:65535 01\n")
	wantTold(t, "version 6, zeros", seen(impl.Obs{To: impl.Source{V6: true}, Out: []byte{1}}), "0 0\n0 0 0 0 6:"+strings.Repeat("0", 32)+":0 01\n")
	var all []byte
	for n := range 256 {
		all = append(all, byte(n))
	}
	var digits strings.Builder
	for _, high := range "0123456789abcdef" {
		for _, low := range "0123456789abcdef" {
			digits.WriteString(string(high) + string(low))
		}
	}
	wantTold(t, "all bytes", seen(impl.Obs{Out: all}), "0 0\n0 0 0 0 4:00000000:0 "+digits.String()+"\n")
}

// Chain and Hash are told together as soon as one of their bytes isn't zero.
func TestTellChainAndHash(t *testing.T) {
	zeros := strings.Repeat("00", 32)
	for i := range 32 {
		var one [32]byte
		one[i] = 0x0B
		ones := strings.Repeat("00", i) + "0b" + strings.Repeat("00", 31-i)
		wantTold(t, "a chain", seen(impl.Obs{Chain: one}), "0 0\n0 0 0 0 "+ones+" "+zeros+"\n")
		wantTold(t, "a hash", seen(impl.Obs{Hash: one}), "0 0\n0 0 0 0 "+zeros+" "+ones+"\n")
	}
	both := impl.Obs{Verdict: 19, Client: 2, Out: []byte{1}, Chain: [32]byte(repeated(0xCC, 32)), Hash: [32]byte(repeated(0xDD, 32))}
	wantTold(t, "a datagram too", seen(both, impl.Obs{Verdict: 4}), "0 0\n19 0 0 2 4:00000000:0 01 "+strings.Repeat("cc", 32)+" "+strings.Repeat("dd", 32)+"\n4 0 0 0\n")
}

func TestTellReportAgainstTheWords(t *testing.T) {
	r := rand.New(rand.NewSource(12))
	for range 2000 {
		report := impl.Report{Dh: int(r.Uint64()) >> r.Intn(64), Code: int(r.Uint64()) >> r.Intn(64)}
		for range r.Intn(5) {
			o := impl.Obs{Verdict: int(r.Uint64()) >> r.Intn(64), Dh: r.Intn(3), Load: r.Intn(2) == 0, Client: r.Intn(70) - 3}
			o.To = impl.Source{V6: r.Intn(2) == 0, Addr: [16]byte(someBytes(r, 16)), Port: uint16(r.Intn(65536))}
			o.Out = someBytes(r, pickBetween(r, 0, 0, 1, 64, 148))
			if r.Intn(2) == 0 {
				o.Chain, o.Hash = randomKey(r), randomKey(r)
			}
			report.Obs = append(report.Obs, o)
		}
		wantTold(t, "at random", report, plainTell(report))
	}
}

func wantRun(t *testing.T, what string, text []byte, want string) {
	t.Helper()
	w := watch(text)
	got := impl.RunText(w.b)
	w.check(t, "the text")
	w.spoil()
	if string(got) != want {
		t.Errorf("%s: got %.300q, want %.300q", what, got, want)
	}
}

func TestRunTextOfFaults(t *testing.T) {
	for text, want := range map[string]string{
		"drian":                             "bad 2 1\n",
		"drain 1":                           "bad 3 1\n",
		"drain\n\ntick 00\nwhat":            "bad 4 3\n",
		"# a\ndraw 0":                       "bad 5 2\n",
		"client " + keyWord + " 4:0:0 what": "bad 7 1\n",
		strings.Repeat("\n", 41) + "client " + keyWord + " " + fourWord + " what": "bad 6 42\n",
		strings.Repeat("\n", 65537): "bad 1 0\n",
	} {
		wantRun(t, "a fault", []byte(text), want)
	}
}

func TestRunTextOfLittle(t *testing.T) {
	wantRun(t, "no text", nil, "0 0\n")
	wantRun(t, "an empty text", []byte{}, "0 0\n")
	wantRun(t, "a remark", []byte("# drain"), "0 0\n")
	wantRun(t, "nobody there", lines("drain", "tick 5", "init 1", "deliver 1", "drop 1", "draw -", "restart", "arrive "+fourWord+" -", ""),
		"0 0\n4 0 0 0\n15 0 0 0\n20 0 0 0\n22 0 0 0\n22 0 0 0\n17 0 0 0\n18 0 0 0\n2 0 0 0\n")
}

// What a text may hold, but a run doesn't take.
func TestRunTextOfTooMuch(t *testing.T) {
	client := "client " + keyWord + " " + fourWord + " other\n"
	wantRun(t, "clients", []byte(strings.Repeat(client, 65)), "1 0\n")
	wantRun(t, "operations", bytes.Repeat([]byte("drain\n"), 10001), "2 0\n")
	wantRun(t, "both", []byte(strings.Repeat(client, 65)+strings.Repeat("drop 1\n", 7000)+strings.Repeat("\n", 100)), "1 0\n")
	wantRun(t, "just so many", bytes.Repeat([]byte("drain\n"), 10000), "0 0\n"+strings.Repeat("4 0 0 0\n", 10000))
}

// A whole run through a gate under load, in the document's numbers, with the datagrams that should be seen.
func TestRunTextOfAWholeRun(t *testing.T) {
	c := house(8)
	d := make([]string, 5)
	for i := range d {
		b := drawNumber(i + 1)
		d[i] = "draw " + hexWord(b[:])
	}
	text := lines("# a gate under load", "queue 8", "gate "+hexWord(c.Private[:]), "client "+hexWord(c.Clients[0].Private[:])+" "+fourWord+"  known", "",
		d[0], d[1], d[2], d[3], "init 1", "deliver 1", "drain", "deliver 1", "tick 50000000", "init 1", "deliver 1", "drain", "drain", "restart", "")
	first, second := sentBy(1, 1, 1, 0, nil), sentBy(1, 2, 4, 50000000, cookieAt(2, placeA))
	reply := cookied(first.Out, placeA, 2, 3)
	keys := func(o impl.Obs) string { return " " + hexWord(o.Chain[:]) + " " + hexWord(o.Hash[:]) }
	want := slices.Concat([]string{"0 2"}, slices.Repeat([]string{"16 0 0 0"}, 4), []string{
		"19 0 0 1 4:00000000:0 " + hexWord(first.Out) + keys(first),
		"1 0 0 1",
		"6 0 1 0 4:0a000001:7 " + hexWord(reply.Out),
		"23 0 0 1",
		"15 0 0 0",
		"19 0 0 1 4:00000000:0 " + hexWord(second.Out) + keys(second),
		"1 0 0 1",
		"14 2 1 1" + keys(second),
		"4 0 0 0",
		"18 0 0 0", ""})
	wantRun(t, "a whole run", text, strings.Join(want, "\n"))
}

func hexWord(b []byte) string {
	const digits = "0123456789abcdef"
	var out []byte
	for _, v := range b {
		out = append(out, digits[v/16], digits[v%16])
	}
	return string(out)
}

// Without a line for it the queue has room for 64 packets, so that eight make load; the table and the queue are as they are said.
func TestRunTextSizes(t *testing.T) {
	wrong := "arrive " + fourWord + " " + hexWord(initiationBytes(impl.Initiation{})) + "\n"
	queued := strings.Repeat("1 0 0 0\n", 8)
	wantRun(t, "eight of 64", []byte(strings.Repeat(wrong, 8)+"drain"), "0 0\n"+queued+"5 0 1 0\n")
	wantRun(t, "seven of 64", []byte(strings.Repeat(wrong, 7)+"drain"), "0 0\n"+queued[8:]+"5 0 0 0\n")
	wantRun(t, "more than 64", []byte(strings.Repeat(wrong, 65)), "0 0\n"+strings.Repeat(queued, 8)+"3 0 0 0\n")
	wantRun(t, "one of eight", []byte(wrong+"drain\nqueue 1"), "0 0\n1 0 0 0\n5 0 1 0\n")
}
