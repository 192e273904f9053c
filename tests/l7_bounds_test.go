package tests

import (
	"bytes"
	"slices"
	"testing"

	"loop.example/s02974/impl"
)

func TestTooManyClients(t *testing.T) {
	c := house(8)
	for n := len(c.Clients); n < 64; n++ {
		c.Clients = append(c.Clients, impl.Client{Private: clientPair(1).private, Known: true})
	}
	r := impl.RunGate(c, script(draws(1), start(65), start(64)))
	wantVerdicts(t, "64 clients", r, impl.NoClient, impl.Sent)
	if r.Obs[2].Client != 64 {
		t.Errorf("client %d", r.Obs[2].Client)
	}
	c.Clients = append(c.Clients, impl.Client{})
	for _, ops := range [][]impl.Op{nil, draws(3), make([]impl.Op, 10001)} {
		if r := impl.RunGate(c, ops); r.Code != 1 || r.Dh != 0 || len(r.Obs) != 0 {
			t.Errorf("65 clients: code %d, %d observations", r.Code, len(r.Obs))
		}
	}
}

func TestTooManyOperations(t *testing.T) {
	ops := script(times(9999, tick(1)), start(9))
	r := impl.RunGate(house(8), ops)
	wantVerdicts(t, "10000 operations", r, impl.Ticked, impl.NoClient)
	if len(r.Obs) != 10000 {
		t.Errorf("%d observations", len(r.Obs))
	}
	for _, ops := range [][]impl.Op{append(ops, drain()), make([]impl.Op, 20000)} {
		if r := impl.RunGate(house(8), ops); r.Code != 2 || r.Dh != 0 || len(r.Obs) != 0 {
			t.Errorf("%d operations: code %d, %d observations", len(ops), r.Code, len(r.Obs))
		}
	}
}

// replies is n cookie replies in flight, all of them to one source.
func replies(n int) []impl.Op {
	return script(draws(n+1), times(n, knocked(placeA, noise(nil))...))
}

func TestFlightFullAtInit(t *testing.T) {
	r := impl.RunGate(house(8), script(replies(1023), draws(3), start(1), start(1), start(9), start(3), drop(7), start(3), start(3)))
	wantObs(t, "room for one", r, sentBy(1, 1, 1, 0, nil), obsOf(impl.FlightFull), obsOf(impl.NoClient), obsOf(impl.FlightFull), obsOf(impl.Dropped),
		sentBy(3, 2, 2, 0, nil), obsOf(impl.FlightFull))
	r = impl.RunGate(house(8), script(replies(1024), start(1), deliver(1), start(1)))
	wantObs(t, "full, and no draw", r, obsOf(impl.FlightFull), refused(1), obsOf(impl.NoDraw))
}

// A reply that finds no room in flight is told and takes its draws, but is gone.
func TestFlightFullAtAReply(t *testing.T) {
	r := impl.RunGate(house(8), script(replies(1023), start(1), drop(1024), drop(1023), drop(1023)))
	wantObs(t, "not full", r, obsOf(impl.NoDraw), obsOf(impl.NoFlight), obsOf(impl.Dropped), obsOf(impl.NoFlight))
	r = impl.RunGate(house(8), script(replies(1024), drop(1025), drop(1024), drop(1024)))
	wantObs(t, "just full", r, cookied(noise(nil), placeA, 1, 1025), obsOf(impl.NoFlight), obsOf(impl.Dropped), obsOf(impl.NoFlight))
	r = impl.RunGate(house(8), script(replies(1025), start(1), drop(1025), drop(1024), drop(1024), start(1), knocked(placeA, noise(nil))))
	wantObs(t, "one too many", r, cookied(noise(nil), placeA, 1, 1026), obsOf(impl.FlightFull), obsOf(impl.NoFlight), obsOf(impl.Dropped), obsOf(impl.NoFlight),
		obsOf(impl.NoDraw), obsOf(impl.Queued), noDraw())
	// The one that found no room was the only one to another source.
	fresh := drawNumber(7)
	r = impl.RunGate(house(8), script(replies(1024), draw(fresh[:]), knocked(placeC, noise(nil)), deliver(1024), drop(1023), deliver(1023)))
	wantObs(t, "the last one", r, cookied(noise(nil), placeC, 1, 7), refused(1), obsOf(impl.Dropped), obsOf(impl.NoFlight))
}

// spend is the gate's multiplications, n of them, in a queue where a packet alone makes no load.
func spend(n int) []impl.Op {
	return times(n, knocked(placeB, noise(nil))...)
}

// The last three multiplications are a client's; then nothing is left for anyone, and nothing changes any more.
func TestMultiplicationsSpentByInit(t *testing.T) {
	t.Parallel()
	spent := obsOf(impl.Spent)
	r := impl.RunGate(house(16), script(spend(4093), draws(2), start(1), start(1), start(4), arrive(placeA, noise(nil)), drain(), drain(),
		times(15, light()), light(), restart(), drain(), deliver(1), drain()))
	full := slices.Repeat([]impl.Obs{obsOf(impl.Queued)}, 15)
	want := slices.Concat([]impl.Obs{sentBy(1, 1, 1, 0, nil), spent, obsOf(impl.NoClient), obsOf(impl.Queued), spent, spent}, full,
		[]impl.Obs{obsOf(impl.QueueFull), obsOf(impl.Restarted), obsOf(impl.Idle), {Verdict: impl.Queued, Client: 1}, spent})
	wantObs(t, "just so", r, want...)
	if r.Dh != 4093 {
		t.Errorf("the gate's: %d", r.Dh)
	}
}

// With two left, a client can't make another, but the gate can open one.
func TestMultiplicationsSpentByDrain(t *testing.T) {
	t.Parallel()
	made := knock{n: 3, at: 1}
	accepted := impl.Obs{Verdict: impl.Accepted, Dh: 2, Client: 3, Chain: made.created().Chain, Hash: made.created().Hash}
	r := impl.RunGate(house(16), script(spend(4094), draws(1), start(1), knocked(placeA, made.bytes()), drain(), knocked(placeA, made.bytes()), start(1)))
	wantObs(t, "just so", r, obsOf(impl.Spent), obsOf(impl.Queued), accepted, obsOf(impl.Idle), obsOf(impl.Queued), obsOf(impl.Spent), obsOf(impl.Spent))
	if r.Dh != 4096 {
		t.Errorf("the gate's: %d", r.Dh)
	}
}

// With one left the gate opens nothing any more, not even what would cost one or none.
func TestMultiplicationsWithOneLeft(t *testing.T) {
	t.Parallel()
	r := impl.RunGate(house(16), script(spend(4094), knocked(placeA, noise(nil)), knocked(placeA, noise(nil)), light(), drain()))
	one := impl.Obs{Verdict: impl.BadStatic, Dh: 1}
	wantObs(t, "one left", r, one, obsOf(impl.Queued), one, obsOf(impl.Queued), obsOf(impl.Spent), obsOf(impl.Queued), obsOf(impl.Spent))
	r = impl.RunGate(house(16), script(light(), drain(), spend(4095), restart(), light(), drain()))
	wantObs(t, "a packet that costs none", r, one, obsOf(impl.Restarted), obsOf(impl.Queued), obsOf(impl.Spent))
	if r.Dh != 4095 {
		t.Errorf("the gate's: %d", r.Dh)
	}
}

// A full flight is told ahead of spent multiplications, and these ahead of missing draws.
func TestOrderOfRefusalsAtInit(t *testing.T) {
	t.Parallel()
	again := script(drop(1), start(1))
	r := impl.RunGate(house(8), script(draws(1365), times(1024, start(1)), times(341, again...), start(0), start(1), drop(1), start(4), start(1),
		deliver(1), drain()))
	wantVerdicts(t, "all refusals", r, impl.Dropped, impl.Sent, impl.NoClient, impl.FlightFull, impl.Dropped, impl.NoClient, impl.Spent, impl.Queued, impl.Spent)
	m, _ := impl.ParseInitiation(r.Obs[len(r.Obs)-8].Out)
	if r.Dh != 0 || m.Sender != 1365 {
		t.Errorf("the gate's: %d, sender %d", r.Dh, m.Sender)
	}
}

func copied(obs []impl.Obs) []impl.Obs {
	out := slices.Clone(obs)
	for i := range out {
		out[i].Out = bytes.Clone(out[i].Out)
	}
	return out
}

// Nothing is written into an argument, and what is seen shares memory neither with an argument nor among itself.
func TestRunGateLeavesArguments(t *testing.T) {
	datas := []watched{watch(knock{n: 1}.bytes()), watch(filled(32)), watch(repeated(9, 32)), watch(noise(nil)), watch(repeated(7, 32)), watch(filled(31))}
	ops := script(arrive(placeA, datas[0].b), draw(datas[1].b), draw(datas[2].b), draw(datas[4].b), draw(datas[4].b), draw(datas[5].b),
		draw(datas[1].b), draw(datas[1].b), drain(), start(1), start(3), arrive(placeB, datas[3].b), drain(), deliver(1), deliver(1), drain(), restart(), tick(4), deliver(1))
	room := append(slices.Clone(house(8).Clients), impl.Client{Known: true, Src: placeC})
	c := house(8)
	c.Clients = room[:3]
	before, opsBefore := slices.Clone(room), slices.Clone(ops)
	r := impl.RunGate(c, ops)
	seen := copied(r.Obs)
	for _, d := range datas {
		d.check(t, "data")
	}
	if !slices.Equal(room, before) {
		t.Errorf("the clients were written into")
	}
	for i, op := range ops {
		if op.Kind != opsBefore[i].Kind || op.N != opsBefore[i].N || op.Src != opsBefore[i].Src || !bytes.Equal(op.Data, opsBefore[i].Data) {
			t.Errorf("operation %d was written into", i)
		}
	}
	for _, d := range datas {
		d.spoil()
	}
	outs := 0
	for i, o := range r.Obs {
		if !sameObs(o, seen[i]) {
			t.Errorf("observation %d shares memory", i)
		}
		outs += len(o.Out)
		whole := o.Out[:cap(o.Out)]
		for k := range whole {
			whole[k] ^= 0xFF
		}
	}
	if outs != 2*148+3*64 {
		t.Errorf("%d bytes are told", outs)
	}
}

// The same run again sees the same: nothing is kept from call to call.
func TestRunGateAgain(t *testing.T) {
	ops := asked(deliver(1), tick(1), start(1), deliver(1), drain(), times(3, knocked(placeC, noise(nil))...)[0], drain())
	first := impl.RunGate(house(8), ops)
	impl.RunGate(house(64), draws(3))
	wantObs(t, "again", impl.RunGate(house(8), ops), first.Obs...)
}
