package tests

import (
	"math"
	"slices"

	"loop.example/s02974/impl"
)

// plainGate is chapter 8 in its own words, with a list for everything, on the functions of the chapters before.
type plainGate struct {
	conf        impl.Config
	room        int
	public      [32]byte
	publics     [][32]byte
	now         int
	queue       []plainPacket
	secrets     []plainSecret
	limiter     impl.Limiter
	until       int
	seen        map[[32]byte]impl.Peer
	draws       [][32]byte
	flight      []plainFlying
	lasts       map[int]impl.Initiation
	cookies     map[int]plainCookie
	made        uint32
	mine, yours int
}

type plainPacket struct {
	msg impl.Initiation
	src impl.Source
}

type plainSecret struct {
	value [32]byte
	made  int
}

type plainCookie struct {
	value [16]byte
	taken int
}

// plainFlying is a datagram; from is the place of its client, or -1 where it is a reply.
type plainFlying struct {
	from int
	to   impl.Source
	data []byte
}

func newPlainGate(c impl.Config) *plainGate {
	g := &plainGate{conf: c, public: publicOf(c.Private), room: c.Queue, lasts: map[int]impl.Initiation{}, cookies: map[int]plainCookie{}}
	if g.room < 8 {
		g.room = 8
	}
	if g.room > 4096 {
		g.room = 4096
	}
	for _, one := range c.Clients {
		g.publics = append(g.publics, publicOf(one.Private))
	}
	g.restart()
	return g
}

func (g *plainGate) restart() {
	g.queue, g.secrets, g.until, g.seen = nil, nil, 0, map[[32]byte]impl.Peer{}
	g.limiter = impl.Limiter{Most: g.conf.Table}
	if g.conf.Table < 1 {
		g.limiter.Most = 1
	}
	if g.conf.Table > 4096 {
		g.limiter.Most = 4096
	}
}

func (g *plainGate) step(op impl.Op) impl.Obs {
	switch op.Kind {
	case 1:
		return obsOf(g.arrive(op.Src, op.Data))
	case 2:
		return g.drain()
	case 3:
		if op.N > 0 {
			if op.N > math.MaxInt-g.now {
				g.now = math.MaxInt
			} else {
				g.now += op.N
			}
		}
		return obsOf(impl.Ticked)
	case 4:
		if len(op.Data) != 32 {
			return obsOf(impl.BadDraw)
		}
		g.draws = append(g.draws, [32]byte(op.Data))
		return obsOf(impl.Drawn)
	case 5:
		g.restart()
		return obsOf(impl.Restarted)
	case 6:
		return g.init(op.N)
	case 7:
		return g.deliver(op.N)
	case 8:
		if op.N < 1 || op.N > len(g.flight) {
			return obsOf(impl.NoFlight)
		}
		g.flight = slices.Delete(slices.Clone(g.flight), op.N-1, op.N)
		return obsOf(impl.Dropped)
	}
	return obsOf(impl.BadOp)
}

func (g *plainGate) arrive(src impl.Source, data []byte) int {
	m, ok := impl.ParseInitiation(data)
	if !ok {
		return impl.BadForm
	}
	if len(g.queue) == g.room {
		return impl.QueueFull
	}
	g.queue = append(g.queue, plainPacket{m, src})
	return impl.Queued
}

func (g *plainGate) init(n int) impl.Obs {
	switch {
	case n < 1 || n > len(g.conf.Clients):
		return obsOf(impl.NoClient)
	case len(g.flight) == 1024:
		return obsOf(impl.FlightFull)
	case g.mine+g.yours+3 > 4096:
		return obsOf(impl.Spent)
	case len(g.draws) == 0:
		return obsOf(impl.NoDraw)
	}
	g.made++
	ephemeral := g.draws[0]
	g.draws = g.draws[1:]
	made := impl.CreateInit(g.conf.Clients[n-1].Private, g.publics[n-1], g.public, ephemeral, g.made, impl.TaiOf(g.now), 0)
	g.yours += 3
	cookie, has := g.cookies[n-1]
	m := impl.StampMacs(made.Msg, g.public, has && g.now-cookie.taken <= age, cookie.value)
	g.lasts[n-1] = m
	g.flight = append(g.flight, plainFlying{n - 1, impl.Source{}, initiationBytes(m)})
	return impl.Obs{Verdict: impl.Sent, Out: initiationBytes(m), Client: n, Chain: made.Chain, Hash: made.Hash}
}

func (g *plainGate) deliver(n int) impl.Obs {
	if n < 1 || n > len(g.flight) {
		return obsOf(impl.NoFlight)
	}
	f := g.flight[n-1]
	g.flight = slices.Delete(slices.Clone(g.flight), n-1, n)
	if f.from >= 0 {
		return impl.Obs{Verdict: g.arrive(g.conf.Clients[f.from].Src, f.data), Client: f.from + 1}
	}
	for i, c := range g.conf.Clients {
		if c.Src != f.to {
			continue
		}
		last, sent := g.lasts[i]
		reply, _ := impl.ParseReply(f.data)
		cookie, opens := impl.OpenReply(reply, g.public, last.Mac1)
		if !sent || reply.Receiver != last.Sender || !opens {
			return impl.Obs{Verdict: impl.Refused, Client: i + 1}
		}
		g.cookies[i] = plainCookie{cookie, g.now}
		return impl.Obs{Verdict: impl.Took, Client: i + 1}
	}
	return obsOf(impl.Lost)
}

func (g *plainGate) drain() impl.Obs {
	if len(g.queue) == 0 {
		return obsOf(impl.Idle)
	}
	if g.mine+g.yours+2 > 4096 {
		return obsOf(impl.Spent)
	}
	o := impl.Obs{}
	if len(g.queue) >= g.room/8 {
		g.until = math.MaxInt
		if g.now <= math.MaxInt-loadTime {
			g.until = g.now + loadTime
		}
		o.Load = true
	} else {
		o.Load = g.now < g.until
	}
	p := g.queue[0]
	g.queue = g.queue[1:]
	if one, _ := impl.CheckMacs(p.msg, g.public, [16]byte{}); !one {
		o.Verdict = impl.BadMac1
		return o
	}
	if o.Load {
		if !g.rightCookie(p) {
			return g.cookie(p)
		}
		var ok bool
		if g.limiter, ok = impl.Allow(g.limiter, impl.LimitKey(p.src), g.now); !ok {
			o.Verdict = impl.Limited
			return o
		}
	}
	return g.open(p, o)
}

// goodSecrets is the secret, if it is there and not too old.
func (g *plainGate) goodSecrets() []plainSecret {
	if len(g.secrets) == 1 && g.now-g.secrets[0].made <= age {
		return g.secrets
	}
	return nil
}

func (g *plainGate) rightCookie(p plainPacket) bool {
	for _, s := range g.goodSecrets() {
		_, two := impl.CheckMacs(p.msg, g.public, impl.CookieOf(s.value, p.src))
		return two
	}
	return false
}

func (g *plainGate) cookie(p plainPacket) impl.Obs {
	wanted := 2 - len(g.goodSecrets())
	if len(g.draws) < wanted {
		return impl.Obs{Verdict: impl.NoDraw, Load: true}
	}
	if wanted == 2 {
		g.secrets = []plainSecret{{g.draws[0], g.now}}
		g.draws = g.draws[1:]
	}
	nonce := [24]byte(g.draws[0][:24])
	g.draws = g.draws[1:]
	data := replyBytes(impl.MakeReply(p.msg, g.public, impl.CookieOf(g.secrets[0].value, p.src), nonce))
	if len(g.flight) < 1024 {
		g.flight = append(g.flight, plainFlying{-1, p.src, data})
	}
	return impl.Obs{Verdict: impl.Cookied, Load: true, To: p.src, Out: data}
}

func (g *plainGate) open(p plainPacket, o impl.Obs) impl.Obs {
	var keys [][32]byte
	var places []int
	for i, c := range g.conf.Clients {
		if c.Known {
			keys = append(keys, g.publics[i])
			places = append(places, i)
		}
	}
	got := impl.ConsumeInit(g.conf.Private, g.public, keys, p.msg, 0)
	g.mine += got.Meter
	o.Dh = got.Meter
	if got.Code != impl.Opened {
		o.Verdict = got.Code
		return o
	}
	key := keys[got.Who-1]
	o.Client = places[got.Who-1] + 1
	peer, verdict := impl.Admit(g.seen[key], got.Stamp, g.now)
	o.Verdict = verdict
	if verdict == impl.Accepted {
		g.seen[key] = peer
		o.Chain, o.Hash = got.Chain, got.Hash
	}
	return o
}
