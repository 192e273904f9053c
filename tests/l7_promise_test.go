package tests

import (
	"bytes"
	"math/rand"
	"testing"

	"loop.example/s02974/impl"
)

// Each byte of a packet that would be accepted: what is broken ahead of Mac2 costs neither multiplication nor datagram nor draw.
func TestBrokenPacketsCostNothing(t *testing.T) {
	right := knock{n: 1, at: 3, cookie: cookieAt(1, placeA)}.bytes()
	for i := range right {
		broken := bytes.Clone(right)
		broken[i] ^= 0x10
		for _, queue := range []int{8, 64} {
			r := impl.RunGate(house(queue), script(draws(3), arrive(placeA, broken), drain(), start(1)))
			switch {
			case i < 4:
				wantObs(t, "the form", r, obsOf(impl.BadForm), obsOf(impl.Idle), sentBy(1, 1, 1, 0, nil))
			case i < 132:
				wantObs(t, "the first mac", r, obsOf(impl.Queued), impl.Obs{Verdict: impl.BadMac1, Load: queue == 8}, sentBy(1, 1, 1, 0, nil))
			case queue == 8:
				wantObs(t, "the second mac, under load", r, cookied(broken, placeA, 1, 2), sentBy(1, 1, 3, 0, nil))
			default:
				wantVerdicts(t, "the second mac, without load", r, impl.Accepted, impl.Sent)
			}
		}
	}
}

// Packets for a full queue cost nothing, and what was in the queue before them is drained as if they hadn't come.
func TestPacketsForAFullQueueCostNothing(t *testing.T) {
	filling := times(8, arrive(placeA, noise(nil)))
	end := script(draws(9), times(9, drain()), start(1), deliver(8))
	few := impl.RunGate(house(8), script(filling, end))
	many := impl.RunGate(house(8), script(filling, times(500, arrive(placeB, knock{n: 1}.bytes())), end))
	wantObs(t, "behind many", many, few.Obs[8:]...)
	wantVerdicts(t, "the queue", few, impl.Cookied, impl.Idle, impl.NoDraw, impl.Refused)
}

// A flood with the right cookie from two addresses of one key and one of another: the rate holds for each key, and is given.
func TestRateUnderLoad(t *testing.T) {
	r := rand.New(rand.NewSource(21))
	other := placeA
	other.Port++
	places := []impl.Source{placeA, other, placeC}
	ops := script(draws(2), knocked(placeA, noise(nil)))
	made := knock{n: 1, at: 5}.created().Msg
	var nows []int
	now := 0
	for range 1500 {
		src := pickBetween(r, places...)
		span := pickBetween(r, 0, 0, 0, r.Intn(cost), cost/2, cost, 9*cost/8)
		if r.Intn(200) == 0 {
			span = idle + 1
		}
		now += span
		nows = append(nows, now)
		ops = script(ops, tick(span), knocked(src, stamped(made, cookieAt(1, src))))
	}
	if now > age {
		t.Fatalf("the secret is too old in the end: %d", now)
	}
	report := impl.RunGate(house(8), ops)
	opened := map[[9]byte][]int{}
	limited := 0
	for n := range nows {
		o := report.Obs[4+3*n+2]
		if !o.Load || o.Dh != map[int]int{impl.Limited: 0, impl.Accepted: 2, impl.Replayed: 2}[o.Verdict] {
			t.Errorf("packet %d: %v", n, o)
		}
		if o.Verdict == impl.Limited {
			limited++
			continue
		}
		key := impl.LimitKey(ops[4+3*n+1].Src)
		opened[key] = append(opened[key], nows[n])
	}
	for _, times := range opened {
		holdRate(t, "under load", times)
		if len(times) < now/cost/4 {
			t.Errorf("only %d were opened in %d", len(times), now)
		}
	}
	if limited < 100 || len(opened) != 2 {
		t.Errorf("%d limited, %d keys", limited, len(opened))
	}
}

// stir writes what has gone before: others that come and go, and the client itself, whatever becomes of it.
func stir(a *author, lines int) {
	for range lines {
		a.line(a.Intn(3))
	}
	for range len(a.gate.queue) {
		a.write(drain())
	}
	for range len(a.gate.flight) {
		a.write(drop(1))
	}
	for range 5 {
		a.write(draw(someBytes(a.Rand, 32)))
	}
}

// A client of the promise, behind a random script, gets its cookie and is accepted under load at every time that is promised.
func TestAKnownClientIsAcceptedUnderLoad(t *testing.T) {
	held := 0
	for seed := range 60 {
		a := newAuthor(int64(1000 + seed))
		c := a.gate.conf
		c.Queue, c.Table = 8, 100
		number := 1 + a.Intn(3)
		mine := impl.Client{Private: drawNumber(300 + seed), Src: impl.Source{V6: seed%2 == 0, Addr: [16]byte{77}, Port: uint16(seed)}, Known: true}
		c.Clients = append(append([]impl.Client{}, c.Clients[:min(number-1, len(c.Clients))]...), mine)
		number = len(c.Clients)
		if a.Intn(2) == 0 {
			c.Clients = append(c.Clients, mine)
		}
		a.gate = newPlainGate(c)
		stir(a, 25)
		if a.gate.now > greatest/2 {
			continue
		}
		// A cookie that it may have had already is none any more.
		for _, op := range script(pickBetween(a.Rand, restart(), tick(age+1)), tick(idle+gap), start(number), deliver(1), drain(), deliver(1)) {
			a.write(op)
		}
		good := a.gate.goodSecrets()
		if len(good) != 1 {
			t.Fatalf("script %d: no secret", seed)
		}
		left := good[0].made + age - a.gate.now
		for _, op := range script(tick(pickBetween(a.Rand, gap, left, left-1, gap+a.Intn(left-gap))), start(number), deliver(1), drain()) {
			a.write(op)
		}
		r := impl.RunGate(c, a.ops)
		n := len(r.Obs)
		wantVerdicts(t, "the reply", r, impl.Sent, impl.Queued, impl.Cookied, impl.Took, impl.Ticked, impl.Sent, impl.Queued, impl.Accepted)
		sent := r.Obs[n-3]
		wantObs(t, "accepted", r, impl.Obs{Verdict: impl.Accepted, Dh: 2, Load: true, Client: number, Chain: sent.Chain, Hash: sent.Hash})
		held++
	}
	if held < 40 {
		t.Errorf("only %d scripts came to it", held)
	}
}

// One peer that sends all the time: of two accepted ones the later has the later stamp and comes FloodGap behind.
func TestGapsOfAPeer(t *testing.T) {
	for _, c := range []struct {
		spans []int
		want  []int
	}{
		{[]int{gap, gap}, []int{impl.Accepted, impl.Accepted, impl.Accepted}},
		{[]int{gap - 1, 1}, []int{impl.Accepted, impl.Flooded, impl.Accepted}},
		{[]int{1, gap - 2, 1, gap - 1, 1}, []int{impl.Accepted, impl.Flooded, impl.Flooded, impl.Accepted, impl.Flooded, impl.Accepted}},
		{[]int{0, gap}, []int{impl.Accepted, impl.Replayed, impl.Accepted}},
	} {
		ops := script(draws(9), start(1), deliver(1), drain())
		for _, span := range c.spans {
			ops = script(ops, tick(span), start(1), deliver(1), drain())
		}
		r := impl.RunGate(house(64), ops)
		var got []int
		for i, op := range ops {
			if op.Kind == impl.OpDrain {
				got = append(got, r.Obs[i].Verdict)
			}
		}
		for i := range c.want {
			if got[i] != c.want[i] {
				t.Errorf("spans %v: got %v, want %v", c.spans, got, c.want)
				break
			}
		}
	}
}
