package tests

import (
	"math/rand"
	"testing"

	"loop.example/s02974/impl"
)

// author writes a script down while a plain gate runs it, so that what it writes hits what the gate is about.
type author struct {
	*rand.Rand
	gate    *plainGate
	places  []impl.Source
	past    [][]byte
	ops     []impl.Op
	seen    []impl.Obs
	secrets [][]plainSecret
}

// randomHouse has few keys and few places, so that some are shared, and a queue and a table near their bounds.
func randomHouse(r *rand.Rand, places []impl.Source) impl.Config {
	c := impl.Config{Private: gatePair().private, Queue: pickBetween(r, -1, 8, 15, 16, 17, 24, 64), Table: pickBetween(r, -5, 1, 2, 3, 5000)}
	for range 1 + r.Intn(4) {
		private := clientPair(byte(1 + r.Intn(3))).private
		c.Clients = append(c.Clients, impl.Client{Private: private, Src: pickBetween(r, places...), Known: r.Intn(4) > 0})
	}
	return c
}

func newAuthor(seed int64) *author {
	r := rand.New(rand.NewSource(seed))
	near, rest := placeA, placeA
	near.Port++
	rest.Addr[9] = 1
	places := []impl.Source{placeA, placeB, placeC, near, rest}
	return &author{Rand: r, places: places, gate: newPlainGate(randomHouse(r, places))}
}

func (a *author) write(op impl.Op) {
	a.secrets = append(a.secrets, a.gate.goodSecrets())
	o := a.gate.step(op)
	a.ops, a.seen = append(a.ops, op), append(a.seen, o)
	if o.Verdict == impl.Sent {
		a.past = append(a.past, o.Out)
	}
}

// span is a time to wait: to the edge of something that has an edge, or about one of the document's times.
func (a *author) span() int {
	edges := []int{0, gap, cost, idle, loadTime}
	if a.Intn(4) == 0 {
		edges = append(edges, age, -7)
	}
	if a.gate.until > a.gate.now {
		edges = append(edges, a.gate.until-a.gate.now)
	}
	for _, s := range a.gate.secrets {
		if a.Intn(5) == 0 {
			edges = append(edges, s.made+age-a.gate.now)
		}
	}
	for _, c := range a.gate.cookies {
		if a.Intn(5) == 0 {
			edges = append(edges, c.taken+age-a.gate.now)
		}
	}
	if a.Intn(60) == 0 {
		edges = []int{greatest - loadTime - a.gate.now, greatest - 1}
	}
	return pickNear(a.Rand, edges...)
}

// packet is one that arrives without a client: one of the past or noise, as it was, broken or stamped anew.
func (a *author) packet(src impl.Source) []byte {
	m := impl.Initiation{Sender: uint32(a.Intn(5)), Ephemeral: [32]byte{9}}
	if len(a.past) > 0 && a.Intn(8) > 0 {
		m, _ = impl.ParseInitiation(pickBetween(a.Rand, a.past...))
	}
	switch a.Intn(12) {
	case 0:
		m.Ephemeral = pickBetween(a.Rand, smallOrder()...)
	case 1:
		m.Static[a.Intn(48)] ^= 1
	case 2:
		m.Stamp[a.Intn(28)] ^= 1
	case 3:
		b := initiationBytes(m)
		b[a.Intn(148)] ^= 1 << a.Intn(8)
		return b
	case 4:
		return initiationBytes(m)[:a.Intn(148)]
	case 5:
		return initiationBytes(m)
	}
	if len(a.gate.secrets) == 0 || a.Intn(4) == 0 {
		return stamped(m, nil)
	}
	cookie := impl.CookieOf(a.gate.secrets[0].value, src)
	return stamped(m, &cookie)
}

// line writes one operation more; the mood says what there is more of.
func (a *author) line(mood int) {
	n := len(a.gate.flight)
	switch k := a.Intn(24 + 8*mood); {
	case k < 5:
		a.write(draw(someBytes(a.Rand, 32)))
	case k < 9:
		a.write(start(pickBetween(a.Rand, 1, 1, a.Intn(6))))
	case k < 13:
		a.write(deliver(pickBetween(a.Rand, 1, 1, 1, n, a.Intn(n+2))))
	case k < 15:
		a.write(tick(a.span()))
	case k == 15:
		a.write(pickBetween(a.Rand, drop(1), drop(n+1), draw(someBytes(a.Rand, 31)), impl.Op{Kind: 9}, restart()))
	case k < 20:
		a.write(drain())
	default:
		src := pickBetween(a.Rand, a.places[:5-a.Intn(5)]...)
		a.write(arrive(src, a.packet(src)))
		if a.Intn(10) > 0 {
			a.write(drain())
		}
	}
}

// Scripts against the document's words, with all verdicts in them that a short script can have.
func TestRunGateAgainstTheWords(t *testing.T) {
	counts := map[[2]int]int{}
	for seed := range 120 {
		a := newAuthor(int64(seed))
		mood := a.Intn(3)
		for range 110 {
			a.line(mood)
		}
		r := impl.RunGate(a.gate.conf, a.ops)
		if len(r.Obs) != len(a.seen) || r.Dh != a.gate.mine || r.Code != 0 {
			t.Fatalf("script %d: %d observations, %d multiplications, code %d", seed, len(r.Obs), r.Dh, r.Code)
		}
		for i, o := range r.Obs {
			if !sameObs(o, a.seen[i]) {
				t.Fatalf("script %d, operation %d of kind %d: got %v, want %v", seed, i, a.ops[i].Kind, o, a.seen[i])
			}
			bit := 0
			if o.Load {
				bit = 1
			}
			counts[[2]int{o.Verdict, bit}]++
		}
		holdPromises(t, a, r)
	}
	for verdict := impl.Queued; verdict <= impl.BadPoint; verdict++ {
		rare := verdict == impl.FlightFull || verdict == impl.Spent
		if counts[[2]int{verdict, 0}]+counts[[2]int{verdict, 1}] == 0 && !rare {
			t.Errorf("verdict %d was never seen: %v", verdict, counts)
		}
	}
	for _, verdict := range []int{impl.BadMac1, impl.BadPoint, impl.BadStatic, impl.Unknown, impl.BadStamp, impl.Replayed, impl.Flooded, impl.Accepted} {
		if counts[[2]int{verdict, 0}] == 0 || counts[[2]int{verdict, 1}] == 0 {
			t.Errorf("verdict %d was seen only with or only without load: %v", verdict, counts)
		}
	}
}

// follower tells from what is seen alone which packets are in the queue, and what is promised of them.
type follower struct {
	t        *testing.T
	conf     impl.Config
	public   [32]byte
	now      int
	flight   []plainFlying
	queue    []plainPacket
	loaded   map[[9]byte][]int
	accepted map[string]bool
	lastTime map[int]int
	lastTai  map[int][12]byte
}

func (f *follower) forget() {
	f.queue, f.accepted, f.lastTime, f.lastTai = nil, map[string]bool{}, map[int]int{}, map[int][12]byte{}
	f.loaded = map[[9]byte][]int{}
}

// holdPromises holds a report against promises 12 to 15.
func holdPromises(t *testing.T, a *author, r impl.Report) {
	t.Helper()
	f := &follower{t: t, conf: a.gate.conf, public: gatePair().public}
	f.forget()
	for i, o := range r.Obs {
		op := a.ops[i]
		if op.Kind != impl.OpDrain {
			if o.Dh != 0 || o.Load || o.To != (impl.Source{}) || (len(o.Out) > 0) != (o.Verdict == impl.Sent) {
				t.Errorf("an operation of kind %d: %v", op.Kind, o)
			}
			f.follow(op, o)
			continue
		}
		if o.Verdict != impl.Idle && o.Verdict != impl.Spent {
			p := f.queue[0]
			f.queue = f.queue[1:]
			f.judged(p, o, a.secrets[i])
		}
	}
	for key, times := range f.loaded {
		holdRate(t, string(key[:]), times)
	}
}

func (f *follower) follow(op impl.Op, o impl.Obs) {
	switch {
	case op.Kind == impl.OpTick && op.N > 0:
		f.now += min(op.N, greatest-f.now)
	case op.Kind == impl.OpRestart:
		f.forget()
	case o.Verdict == impl.Sent:
		f.flight = append(f.flight, plainFlying{from: o.Client - 1, data: o.Out})
	case op.Kind == impl.OpArrive && o.Verdict == impl.Queued:
		m, _ := impl.ParseInitiation(op.Data)
		f.queue = append(f.queue, plainPacket{m, op.Src})
	case (op.Kind == impl.OpDeliver || op.Kind == impl.OpDrop) && o.Verdict != impl.NoFlight:
		one := f.flight[op.N-1]
		f.flight = append(append([]plainFlying{}, f.flight[:op.N-1]...), f.flight[op.N:]...)
		if o.Verdict == impl.Queued {
			m, _ := impl.ParseInitiation(one.data)
			f.queue = append(f.queue, plainPacket{m, f.conf.Clients[one.from].Src})
		}
	}
}

func (f *follower) judged(p plainPacket, o impl.Obs, secrets []plainSecret) {
	if (o.Verdict == impl.Cookied) != (len(o.Out) > 0) || (len(o.Out) > 0 && (len(o.Out) != 64 || o.To != p.src)) {
		f.t.Errorf("a datagram that shouldn't be: %v", o)
	}
	if o.Verdict == impl.Cookied {
		f.flight = append(f.flight, plainFlying{from: -1, to: o.To, data: o.Out})
	}
	one, _ := impl.CheckMacs(p.msg, f.public, [16]byte{})
	if one == (o.Verdict == impl.BadMac1) || (!one && (o.Dh != 0 || len(o.Out) != 0)) {
		f.t.Errorf("Mac1 is right, %v: %v", one, o)
	}
	if !o.Load {
		f.loaded = map[[9]byte][]int{}
	}
	if o.Load && o.Dh > 0 {
		if len(secrets) != 1 || f.now-secrets[0].made > age {
			f.t.Fatalf("opened without a good secret: %v", o)
		}
		if _, two := impl.CheckMacs(p.msg, f.public, impl.CookieOf(secrets[0].value, p.src)); !two {
			f.t.Errorf("opened without the right cookie: %v", o)
		}
		key := impl.LimitKey(p.src)
		f.loaded[key] = append(f.loaded[key], f.now)
	}
	if o.Dh > 2 {
		f.t.Errorf("%d multiplications in one drain", o.Dh)
	}
	if o.Verdict == impl.Accepted {
		f.accept(p, o)
	}
}

func (f *follower) accept(p plainPacket, o impl.Obs) {
	data := string(initiationBytes(p.msg))
	if f.accepted[data] {
		f.t.Errorf("accepted twice: %v", o)
	}
	f.accepted[data] = true
	key := publicOf(f.conf.Clients[o.Client-1].Private)
	got := impl.ConsumeInit(f.conf.Private, f.public, [][32]byte{key}, p.msg, 0)
	last, before := f.lastTai[o.Client]
	if got.Code != impl.Opened || got.Chain != o.Chain || got.Hash != o.Hash || (before && !impl.TaiLess(last, got.Stamp)) {
		f.t.Errorf("accepted with code %d, behind a stamp %x: %v", got.Code, last, o)
	}
	if before && f.now-f.lastTime[o.Client] < gap {
		f.t.Errorf("accepted %d behind the last", f.now-f.lastTime[o.Client])
	}
	f.lastTai[o.Client], f.lastTime[o.Client] = got.Stamp, f.now
}
