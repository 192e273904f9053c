package tests

import (
	"math"
	"testing"

	"loop.example/s02974/impl"
)

// light is a packet with a wrong Mac1: load is told of it, and nothing else happens.
func light() impl.Op {
	return arrive(placeA, initiationBytes(impl.Initiation{}))
}

// wantLoads drains light packets and holds the loads against what they should be, as 1 and 0.
func wantLoads(t *testing.T, what string, queue int, ops []impl.Op, want ...int) {
	t.Helper()
	var got []int
	for i, o := range impl.RunGate(house(queue), ops).Obs {
		if ops[i].Kind != impl.OpDrain {
			continue
		}
		if o.Verdict != impl.BadMac1 && o.Verdict != impl.Idle {
			t.Errorf("%s: verdict %d", what, o.Verdict)
		}
		bit := 0
		if o.Load {
			bit = 1
		}
		if !sameObs(o, impl.Obs{Verdict: o.Verdict, Load: o.Load}) {
			t.Errorf("%s: more is seen: %v", what, o)
		}
		got = append(got, bit)
	}
	if len(got) != len(want) {
		t.Fatalf("%s: %d loads, want %d", what, len(got), len(want))
	}
	for i := range want {
		if got[i] != want[i] {
			t.Errorf("%s (queue %d): loads %v, want %v", what, queue, got, want)
			return
		}
	}
}

// queues is numbers for a queue's room, with the room that they give.
func queues() map[int]int {
	return map[int]int{math.MinInt: 8, -1: 8, 0: 8, 1: 8, 7: 8, 8: 8, 9: 9, 15: 15, 16: 16, 17: 17, 23: 23, 24: 24, 63: 63, 64: 64, 71: 71, 72: 72,
		4087: 4087, 4088: 4088, 4095: 4095, 4096: 4096, 4097: 4096, 5000: 4096, math.MaxInt: 4096}
}

func TestRoomOfTheQueue(t *testing.T) {
	for queue, room := range queues() {
		r := impl.RunGate(house(queue), times(room+2, light()))
		wantObs(t, "the queue's room", r, obsOf(impl.Queued), obsOf(impl.QueueFull), obsOf(impl.QueueFull))
	}
}

func TestLoadAtAnEighthOfTheQueue(t *testing.T) {
	for queue, room := range queues() {
		eighth := room / 8
		wantLoads(t, "just an eighth", queue, script(times(eighth, light()), drain()), 1)
		if eighth > 1 {
			wantLoads(t, "one fewer", queue, script(times(eighth-1, light()), drain()), 0)
			wantLoads(t, "one fewer, then one more", queue, script(times(eighth-1, light()), drain(), light(), light(), drain(), drain()), 0, 1, 1)
		}
		wantLoads(t, "the full queue", queue, script(times(room, light()), drain(), drain()), 1, 1)
	}
}

// A queue of sixteen is under load with two packets; a packet alone is so only while load sticks.
func TestLoadSticks(t *testing.T) {
	two := script(light(), light(), drain(), drain())
	one := script(light(), drain())
	wantLoads(t, "the second of two", 16, script(one, two, one), 0, 1, 1, 1)
	wantLoads(t, "just ahead of until", 16, script(two, tick(loadTime-1), one), 1, 1, 1)
	wantLoads(t, "just at until", 16, script(two, tick(loadTime), one), 1, 1, 0)
	wantLoads(t, "behind until", 16, script(two, tick(loadTime+1), one), 1, 1, 0)
	wantLoads(t, "later than at the start", 16, script(tick(3*loadTime), one, two, tick(loadTime-1), one, tick(1), one), 0, 1, 1, 1, 0)
	wantLoads(t, "one alone doesn't make it longer", 16, script(two, tick(loadTime-1), one, tick(1), one), 1, 1, 1, 0)
	wantLoads(t, "two make it longer", 16, script(two, tick(loadTime-1), two, tick(loadTime-1), one, tick(1), one), 1, 1, 1, 1, 1, 0)
	wantLoads(t, "two make it anew", 16, script(two, tick(5*loadTime), one, two, tick(loadTime-1), one, tick(1), one), 1, 1, 0, 1, 1, 1, 0)
	wantLoads(t, "the second of two is one alone", 16,
		script(light(), light(), drain(), tick(loadTime-1), drain(), tick(1), one), 1, 1, 0)
	wantLoads(t, "an empty queue", 16, script(drain(), two, drain(), one, tick(loadTime-1), drain(), one, tick(1), drain(), one), 0, 1, 1, 0, 1, 0, 1, 0, 0)
	wantLoads(t, "what is refused makes no load", 16, script(times(9, arrive(placeA, nil)), one), 0)
}

// Behind the greatest time there is none: load that begins there is over at once.
func TestLoadNearTheGreatestTime(t *testing.T) {
	two := script(light(), light(), drain())
	one := script(light(), drain())
	at := func(now int) impl.Op { return tick(now) }
	rest := drain()
	wantLoads(t, "until just the greatest", 16, script(at(greatest-loadTime), two, tick(loadTime-1), rest, one, tick(1), one), 1, 1, 1, 0)
	wantLoads(t, "until one before", 16, script(at(greatest-loadTime-1), two, tick(loadTime-1), rest, tick(1), one, tick(1), one), 1, 1, 0, 0)
	wantLoads(t, "until would be one more", 16, script(at(greatest-loadTime+1), two, tick(loadTime-2), rest, one, tick(1), one), 1, 1, 1, 0)
	wantLoads(t, "near the end", 16, script(at(greatest-5), two, rest, tick(4), one, tick(1), one, one), 1, 1, 1, 0, 0)
	wantLoads(t, "at the end", 16, script(at(greatest), one, two, rest, one, tick(7), one, two), 0, 1, 0, 0, 0, 1)
	wantLoads(t, "at the end, of eight", 8, script(at(greatest), one, one, two, rest), 1, 1, 1, 1)
}

// Every verdict of a packet with the right cookie under load. The secret is draw 1.
func TestDrainUnderLoad(t *testing.T) {
	right := cookieAt(1, placeB)
	first := knock{n: 1, at: 5, cookie: right}
	wrong := first.bytes()
	wrong[20] ^= 1
	static, stamp, point := first.created().Msg, first.created().Msg, first.created().Msg
	static.Static[0] ^= 1
	stamp.Stamp[0] ^= 1
	point.Ephemeral = [32]byte{}
	accepted := impl.Obs{Verdict: impl.Accepted, Dh: 2, Load: true, Client: 1, Chain: first.created().Chain, Hash: first.created().Hash}
	for _, c := range []struct {
		what string
		data []byte
		want impl.Obs
	}{
		{"a wrong mac", wrong, impl.Obs{Verdict: impl.BadMac1}},
		{"a point of small order", stamped(point, right), impl.Obs{Verdict: impl.BadPoint, Dh: 1}},
		{"another static key", stamped(static, right), impl.Obs{Verdict: impl.BadStatic, Dh: 1}},
		{"a client that isn't known", knock{n: 2, cookie: right}.bytes(), impl.Obs{Verdict: impl.Unknown, Dh: 1}},
		{"another stamp", stamped(stamp, right), impl.Obs{Verdict: impl.BadStamp, Dh: 2}},
		{"the first", first.bytes(), accepted},
		{"the same again", first.bytes(), impl.Obs{Verdict: impl.Replayed, Dh: 2, Client: 1}},
		{"a later one too soon", knock{n: 1, at: 6, cookie: right}.bytes(), impl.Obs{Verdict: impl.Flooded, Dh: 2, Client: 1}},
	} {
		before := script(draws(2), arrive(placeB, noise(nil)), drain())
		if c.want.Verdict == impl.Replayed || c.want.Verdict == impl.Flooded {
			before = script(before, arrive(placeB, first.bytes()), drain())
		}
		c.want.Load = true
		r := impl.RunGate(house(8), script(before, arrive(placeB, c.data), drain(), drain()))
		wantObs(t, c.what, r, obsOf(impl.Queued), c.want, obsOf(impl.Idle))
	}
}
