package tests

import (
	"bytes"
	"math"
	"testing"

	"loop.example/s02974/impl"
)

// The numbers of the document's table and list.
func TestKindsAndVerdicts(t *testing.T) {
	kinds := []int{impl.OpArrive, impl.OpDrain, impl.OpTick, impl.OpDraw, impl.OpRestart, impl.OpInit, impl.OpDeliver, impl.OpDrop}
	verdicts := []int{impl.Queued, impl.BadForm, impl.QueueFull, impl.Idle, impl.BadMac1, impl.Cookied, impl.NoDraw,
		impl.Limited, impl.BadStatic, impl.Unknown, impl.BadStamp, impl.Replayed, impl.Flooded, impl.Accepted, impl.Ticked,
		impl.Drawn, impl.BadDraw, impl.Restarted, impl.Sent, impl.NoClient, impl.FlightFull, impl.NoFlight, impl.Took,
		impl.Refused, impl.Lost, impl.Dropped, impl.Spent, impl.BadOp, impl.BadPoint, impl.Opened}
	for _, list := range [][]int{kinds, verdicts} {
		for i, v := range list {
			if v != i+1 {
				t.Errorf("number %d is %d", i+1, v)
			}
		}
	}
	limits := [6]int{impl.LoadTime, impl.MaxClients, impl.MaxQueue, impl.MaxFlight, impl.MaxDh, impl.MaxOps}
	if len(kinds) != 8 || len(verdicts) != 30 || limits != [6]int{1000000000, 64, 4096, 1024, 4096, 10000} {
		t.Errorf("limits: %v", limits)
	}
}

func TestArrive(t *testing.T) {
	right := knock{n: 1}.bytes()
	short, long, other := right[:147], append(bytes.Clone(right), 0), bytes.Clone(right)
	other[3] = 1
	reply := replyBytes(someReply())
	r := impl.RunGate(house(8), script(arrive(placeA, right), arrive(placeA, nil), arrive(placeA, short), arrive(placeA, long),
		arrive(placeA, other), arrive(placeA, reply), arrive(impl.Source{}, initiationBytes(impl.Initiation{}))))
	wantObs(t, "forms", r, obsOf(impl.Queued), obsOf(impl.BadForm), obsOf(impl.BadForm), obsOf(impl.BadForm), obsOf(impl.BadForm),
		obsOf(impl.BadForm), obsOf(impl.Queued))
}

// A form is refused ahead of a full queue; what is refused takes no room, and what is drained gives room for one.
func TestArriveAtAFullQueue(t *testing.T) {
	right := knock{n: 1}.bytes()
	r := impl.RunGate(house(8), script(times(20, arrive(placeA, right[:9])), times(7, arrive(placeA, right)), times(3, arrive(placeA, right)),
		arrive(placeA, right[:9]), draws(2), drain(), arrive(placeB, right), arrive(placeB, right)))
	wantObs(t, "full", r, obsOf(impl.Queued), obsOf(impl.QueueFull), obsOf(impl.QueueFull), obsOf(impl.BadForm), obsOf(impl.Drawn),
		obsOf(impl.Drawn), r.Obs[len(r.Obs)-3], obsOf(impl.Queued), obsOf(impl.QueueFull))
}

func TestOtherKinds(t *testing.T) {
	d := drawNumber(1)
	for _, kind := range []int{0, -1, 9, 10, math.MaxInt, math.MinInt, 256 + 3, 1<<32 + 2} {
		op := impl.Op{Kind: kind, N: 1, Src: placeA, Data: d[:]}
		r := impl.RunGate(house(8), script(arrive(placeA, noise(nil)), op, start(1), drain(), deliver(1)))
		wantObs(t, "another kind", r, obsOf(impl.BadOp), obsOf(impl.NoDraw), impl.Obs{Verdict: impl.NoDraw, Load: true}, obsOf(impl.NoFlight))
	}
}

// The fields that an operation doesn't have don't matter to it.
func TestFieldsThatDontCount(t *testing.T) {
	plain := script(draws(6), tick(5), start(1), start(3), deliver(1), drain(), deliver(2), drop(1), restart(), deliver(1), drain())
	full := bytes.Clone(knock{n: 3}.bytes())
	changed := make([]impl.Op, len(plain))
	for i, op := range plain {
		if op.Kind == 2 || op.Kind == 5 || op.Kind == 4 {
			op.N = 1
		}
		op.Src = placeB
		if op.Kind != 4 {
			op.Data = full
		}
		changed[i] = op
	}
	a, b := impl.RunGate(house(8), plain), impl.RunGate(house(8), changed)
	wantObs(t, "other fields", b, a.Obs...)
}

func TestDraw(t *testing.T) {
	for _, n := range []int{0, 1, 31, 33, 64, 148} {
		r := impl.RunGate(house(8), script(draw(filled(n)), start(1)))
		wantObs(t, "a draw of another length", r, obsOf(impl.BadDraw), obsOf(impl.NoDraw))
	}
	r := impl.RunGate(house(8), script(draw(filled(31)), draws(2), draw(filled(33)), start(1), start(1), start(1)))
	wantVerdicts(t, "two draws", r, impl.Drawn, impl.Drawn, impl.BadDraw, impl.Sent, impl.Sent, impl.NoDraw)
	wantEphemeral(t, r.Obs[4], drawNumber(1))
	wantEphemeral(t, r.Obs[5], drawNumber(2))
	zeros := impl.RunGate(house(8), script(draw(make([]byte, 32)), start(1)))
	wantEphemeral(t, zeros.Obs[1], [32]byte{})
}

// wantEphemeral asks whether an initiation was made with that draw.
func wantEphemeral(t *testing.T, o impl.Obs, private [32]byte) {
	t.Helper()
	m, ok := impl.ParseInitiation(o.Out)
	if !ok || m.Ephemeral != publicOf(private) {
		t.Errorf("made with another draw: %x", o.Out)
	}
}

func TestTick(t *testing.T) {
	for _, c := range []struct {
		ticks []int
		now   int
	}{
		{[]int{0}, 0},
		{[]int{5}, 5},
		{[]int{5, -1}, 5},
		{[]int{5, -5, math.MinInt, 0}, 5},
		{[]int{-3, 2}, 2},
		{[]int{1999999999, 1}, 2000000000},
		{[]int{greatest}, greatest},
		{[]int{greatest, 1}, greatest},
		{[]int{greatest - 1, 1}, greatest},
		{[]int{greatest - 1, 2}, greatest},
		{[]int{1, greatest}, greatest},
		{[]int{greatest, greatest, -1}, greatest},
		{[]int{1 << 62, 1 << 62}, greatest},
		{[]int{1<<62 - 1, 1 << 62}, greatest},
	} {
		ops := draws(1)
		for _, n := range c.ticks {
			ops = append(ops, tick(n))
		}
		r := impl.RunGate(house(64), script(ops, start(1)))
		wantObs(t, "ticks", r, obsOf(impl.Ticked), sentBy(1, 1, 1, c.now, nil))
	}
}

// sentBy is what should be seen of an initiation of a client of the house, the sender's number and the draw's.
func sentBy(n byte, sender uint32, drawn, now int, cookie *[16]byte) impl.Obs {
	mine := clientPair(n)
	made := plainCreate(mine.private, mine.public, gatePair().public, drawNumber(drawn), sender, impl.TaiOf(now), 0)
	return impl.Obs{Verdict: impl.Sent, Out: stamped(made.Msg, cookie), Client: int(n), Chain: made.Chain, Hash: made.Hash}
}

func TestInit(t *testing.T) {
	r := impl.RunGate(house(64), script(draws(4), start(1), tick(7), start(2), start(3), start(1), start(1)))
	wantObs(t, "initiations", r, sentBy(1, 1, 1, 0, nil), obsOf(impl.Ticked), sentBy(2, 2, 2, 7, nil), sentBy(3, 3, 3, 7, nil),
		sentBy(1, 4, 4, 7, nil), obsOf(impl.NoDraw))
	if r.Dh != 0 {
		t.Errorf("clients' multiplications are told as the gate's: %d", r.Dh)
	}
}

// What isn't sent isn't numbered, and takes no draw.
func TestInitOfNoClient(t *testing.T) {
	for _, n := range []int{0, 4, -1, math.MaxInt, math.MinInt, 1<<32 + 1} {
		r := impl.RunGate(house(64), script(start(n), draws(1), start(n), start(1), deliver(2), start(n)))
		wantObs(t, "no client", r, obsOf(impl.NoClient), obsOf(impl.Drawn), obsOf(impl.NoClient), sentBy(1, 1, 1, 0, nil), obsOf(impl.NoFlight),
			obsOf(impl.NoClient))
	}
	r := impl.RunGate(house(64), script(start(1), draws(1), start(1)))
	wantObs(t, "no draw", r, obsOf(impl.NoDraw), obsOf(impl.Drawn), sentBy(1, 1, 1, 0, nil))
	r = impl.RunGate(impl.Config{}, script(draws(1), start(1), start(0)))
	wantObs(t, "no clients", r, obsOf(impl.NoClient), obsOf(impl.NoClient))
}

func TestDeliverAndDropOfNoPlace(t *testing.T) {
	for _, n := range []int{0, 3, -1, math.MaxInt, math.MinInt, 1<<32 + 1} {
		r := impl.RunGate(house(64), script(deliver(1), drop(1), draws(2), start(1), start(3), deliver(n), drop(n), drop(2), drop(1), drop(1)))
		wantVerdicts(t, "at first", r, impl.NoFlight, impl.NoFlight, impl.Drawn, impl.Drawn, impl.Sent, impl.Sent,
			impl.NoFlight, impl.NoFlight, impl.Dropped, impl.Dropped, impl.NoFlight)
		wantObs(t, "no place", r, obsOf(impl.NoFlight), obsOf(impl.NoFlight), obsOf(impl.Dropped), obsOf(impl.Dropped), obsOf(impl.NoFlight))
	}
}

// Places move up behind one that leaves, whether it is delivered or dropped.
func TestPlacesMoveUp(t *testing.T) {
	to := func(n int) impl.Obs { return impl.Obs{Verdict: impl.Queued, Client: n} }
	flight := script(draws(5), start(1), start(2), start(3), start(2), start(1))
	r := impl.RunGate(house(64), script(flight, deliver(2), drop(2), deliver(2), deliver(2), deliver(1), deliver(1)))
	wantObs(t, "five in flight", r, to(2), obsOf(impl.Dropped), to(2), to(1), to(1), obsOf(impl.NoFlight))
	r = impl.RunGate(house(64), script(flight, deliver(5), deliver(5), deliver(1), deliver(1), drop(2), deliver(1), drop(1)))
	wantObs(t, "from both ends", r, to(1), obsOf(impl.NoFlight), to(1), to(2), obsOf(impl.Dropped), to(3), obsOf(impl.NoFlight))
}

// A datagram leaves its place for a full queue too, and is gone then.
func TestDeliverToAFullQueue(t *testing.T) {
	r := impl.RunGate(house(8), script(draws(9), times(9, start(3)), times(8, deliver(1)), deliver(1), deliver(1)))
	wantObs(t, "full", r, impl.Obs{Verdict: impl.Queued, Client: 3}, impl.Obs{Verdict: impl.QueueFull, Client: 3}, obsOf(impl.NoFlight))
}

// Every verdict of a packet that isn't under load, with all its fields.
func TestDrainWithoutLoad(t *testing.T) {
	first, later := knock{n: 1, at: 5}, knock{n: 1, at: 6, sender: 9}
	wrong, static, stamp := first.bytes(), first.created().Msg, first.created().Msg
	wrong[116] ^= 1
	static.Static[47] ^= 1
	stamp.Stamp[27] ^= 1
	point := first.created().Msg
	point.Ephemeral = [32]byte{1}
	one, two := func(v int) impl.Obs { return impl.Obs{Verdict: v, Dh: 1} }, func(v, n int) impl.Obs { return impl.Obs{Verdict: v, Dh: 2, Client: n} }
	accepted := two(impl.Accepted, 1)
	accepted.Chain, accepted.Hash = first.created().Chain, first.created().Hash
	third := two(impl.Accepted, 3)
	third.Chain, third.Hash = knock{n: 3}.created().Chain, knock{n: 3}.created().Hash
	for _, c := range []struct {
		what string
		data []byte
		want impl.Obs
	}{
		{"a wrong mac", wrong, obsOf(impl.BadMac1)},
		{"a point of small order", stamped(point, nil), one(impl.BadPoint)},
		{"another static key", stamped(static, nil), one(impl.BadStatic)},
		{"noise", noise(nil), one(impl.BadStatic)},
		{"a client that isn't known", knock{n: 2}.bytes(), one(impl.Unknown)},
		{"no client", knock{n: 9}.bytes(), one(impl.Unknown)},
		{"another stamp", stamped(stamp, nil), impl.Obs{Verdict: impl.BadStamp, Dh: 2}},
		{"the first", first.bytes(), accepted},
		{"the same again", first.bytes(), two(impl.Replayed, 1)},
		{"an earlier one", knock{n: 1, at: 4}.bytes(), two(impl.Replayed, 1)},
		{"a later one too soon", later.bytes(), two(impl.Flooded, 1)},
		{"another client", knock{n: 3}.bytes(), third},
	} {
		before := []impl.Op{}
		if c.want.Verdict == impl.Replayed || c.want.Verdict == impl.Flooded {
			before = script(arrive(placeB, first.bytes()), drain())
		}
		r := impl.RunGate(house(64), script(before, arrive(placeB, c.data), drain(), drain()))
		wantObs(t, c.what, r, obsOf(impl.Queued), c.want, obsOf(impl.Idle))
	}
}

// The queue's order is that of arrival, whatever way the packets came.
func TestDrainInOrder(t *testing.T) {
	r := impl.RunGate(house(64), script(draws(2), start(3), start(2), arrive(placeA, knock{n: 1}.bytes()), deliver(1), arrive(placeA, noise(nil)), deliver(1),
		arrive(placeA, knock{n: 2}.bytes()), drain(), drain(), drain(), drain(), drain(), drain()))
	wantVerdicts(t, "five packets", r, impl.Accepted, impl.Accepted, impl.BadStatic, impl.Unknown, impl.Unknown, impl.Idle)
	if n := len(r.Obs); r.Obs[n-6].Client != 1 || r.Obs[n-5].Client != 3 {
		t.Errorf("in another order: %v", r.Obs)
	}
}

// An empty script, an empty configuration, and lists that are nil or empty.
func TestRunOfNothing(t *testing.T) {
	for _, c := range []impl.Config{{}, {Clients: []impl.Client{}}, house(8)} {
		for _, s := range [][]impl.Op{nil, {}} {
			if r := impl.RunGate(c, s); r.Code != 0 || r.Dh != 0 || len(r.Obs) != 0 {
				t.Errorf("a run of nothing: %v", r)
			}
		}
	}
}
