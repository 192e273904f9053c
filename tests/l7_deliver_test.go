package tests

import (
	"testing"

	"loop.example/s02974/impl"
)

// asked is client 1 of a house of eight that has sent an initiation with draw 1 and waits for the reply, in place 1; the
// secret is draw 2 and the nonce draw 3.
func asked(more ...impl.Op) []impl.Op {
	return script(draws(9), start(1), deliver(1), drain(), more)
}

func took(n int) impl.Obs    { return impl.Obs{Verdict: impl.Took, Client: n} }
func refused(n int) impl.Obs { return impl.Obs{Verdict: impl.Refused, Client: n} }

// The whole way of a client through a gate under load.
func TestCookieThereAndBack(t *testing.T) {
	r := impl.RunGate(house(8), asked(deliver(1), deliver(1), tick(1), start(1), deliver(1), drain(), drain()))
	first, second := sentBy(1, 1, 1, 0, nil), sentBy(1, 2, 4, 1, cookieAt(2, placeA))
	queued := impl.Obs{Verdict: impl.Queued, Client: 1}
	accepted := impl.Obs{Verdict: impl.Accepted, Dh: 2, Load: true, Client: 1, Chain: second.Chain, Hash: second.Hash}
	wantObs(t, "there and back", r, first, queued, cookied(first.Out, placeA, 2, 3), took(1), obsOf(impl.NoFlight), obsOf(impl.Ticked), second, queued,
		accepted, obsOf(impl.Idle))
}

// A cookie is good up to its age, counted from when it was taken.
func TestAgeOfTheCookie(t *testing.T) {
	cookie := cookieAt(2, placeA)
	r := impl.RunGate(house(8), asked(deliver(1), tick(age), start(1), tick(1), start(1)))
	wantObs(t, "just its age, and one more", r, sentBy(1, 2, 4, age, cookie), obsOf(impl.Ticked), sentBy(1, 3, 5, age+1, nil))
	r = impl.RunGate(house(8), asked(tick(50), deliver(1), tick(age), start(1), tick(1), start(1)))
	wantObs(t, "not from when it was made", r, sentBy(1, 2, 4, age+50, cookie), obsOf(impl.Ticked), sentBy(1, 3, 5, age+51, nil))
	// A cookie that was too old is none the younger where the clock stands, and another one takes its place.
	r = impl.RunGate(house(8), asked(deliver(1), tick(age+1), start(1), deliver(1), drain(), deliver(1), start(1), tick(age), start(1)))
	wantObs(t, "another one", r, took(1), sentBy(1, 3, 7, age+1, cookieAt(5, placeA)), obsOf(impl.Ticked), sentBy(1, 4, 8, 2*age+1, cookieAt(5, placeA)))
}

// The cookie of a secret that was made anew takes the place of the older one, which was still good.
func TestANewerCookie(t *testing.T) {
	r := impl.RunGate(house(8), asked(tick(30), deliver(1), tick(age-29), start(1), deliver(1), drain(), deliver(1), start(1), deliver(1), drain()))
	now := age + 1
	third := sentBy(1, 3, 7, now, cookieAt(5, placeA))
	wantObs(t, "a newer one", r, took(1), obsOf(impl.Ticked), sentBy(1, 2, 4, now, cookieAt(2, placeA)), impl.Obs{Verdict: impl.Queued, Client: 1},
		cookied(sentBy(1, 2, 4, now, cookieAt(2, placeA)).Out, placeA, 5, 6), took(1), third, impl.Obs{Verdict: impl.Queued, Client: 1},
		impl.Obs{Verdict: impl.Accepted, Load: true, Dh: 2, Client: 1, Chain: third.Chain, Hash: third.Hash})
}

// A reply is for the last initiation alone, and one that is refused leaves the cookie that there is.
func TestRefusedReplies(t *testing.T) {
	r := impl.RunGate(house(8), script(draws(3), knocked(placeA, noise(nil)), deliver(1), start(1)))
	wantObs(t, "nothing sent", r, refused(1), sentBy(1, 1, 3, 0, nil))
	// The reply is in place 1, the next initiation in place 2.
	r = impl.RunGate(house(8), asked(start(1), deliver(1), start(1)))
	wantObs(t, "sent another since", r, refused(1), sentBy(1, 3, 5, 0, nil))
	// The number of the client's last initiation, but not its Mac1.
	m := impl.Initiation{Sender: 1, Ephemeral: [32]byte{9}}
	r = impl.RunGate(house(8), script(draws(4), start(1), knocked(placeA, stamped(m, nil)), deliver(2), start(1)))
	wantObs(t, "another mac", r, refused(1), sentBy(1, 2, 4, 0, nil))
	// A reply to a packet that came from the client's place, but isn't of the client.
	r = impl.RunGate(house(8), asked(deliver(1), start(1), deliver(1), arrive(placeA, noise(nil)), drain(), drain(), deliver(1), start(1)))
	wantObs(t, "the cookie stays", r, refused(1), sentBy(1, 3, 6, 0, cookieAt(2, placeA)))
	// Delivered twice over from two packets of the same bytes: both are good.
	out := sentBy(1, 1, 1, 0, nil).Out
	r = impl.RunGate(house(8), asked(knocked(placeA, out)[0], drain(), deliver(2), tick(9), deliver(1), tick(age), start(1)))
	wantObs(t, "twice", r, took(1), obsOf(impl.Ticked), took(1), obsOf(impl.Ticked), sentBy(1, 2, 5, age+9, cookieAt(2, placeA)))
}

// A reply goes where the packet came from, not to who made it.
func TestRepliesToOtherSources(t *testing.T) {
	out := sentBy(1, 1, 1, 0, nil).Out
	begin := script(draws(4), start(1), drop(1))
	nowhere, rest := placeA, placeA
	nowhere.Port++
	rest.Addr[4] = 1
	for _, src := range []impl.Source{nowhere, rest, {}} {
		r := impl.RunGate(house(8), script(begin, knocked(src, out), deliver(1), start(1)))
		wantObs(t, "nobody there", r, cookied(out, src, 2, 3), obsOf(impl.Lost), sentBy(1, 2, 4, 0, nil))
	}
	r := impl.RunGate(house(8), script(begin, knocked(placeC, out), deliver(1)))
	wantObs(t, "client 3 is there", r, refused(3))
	r = impl.RunGate(house(8), script(begin, knocked(placeB, out), deliver(1)))
	wantObs(t, "one who isn't known gets replies too", r, refused(2))
}

// Of clients with one source the first gets the reply, whosever it is.
func TestClientsWithOneSource(t *testing.T) {
	c := house(8)
	c.Clients[2].Src = placeA
	r := impl.RunGate(c, script(draws(9), start(3), deliver(1), drain(), deliver(1), start(3), deliver(1)))
	wantObs(t, "the first has sent nothing", r, refused(1), sentBy(3, 2, 4, 0, nil), impl.Obs{Verdict: impl.Queued, Client: 3})
	r = impl.RunGate(c, script(draws(9), start(1), start(3), deliver(2), drain(), deliver(2), deliver(1), drain(), deliver(1)))
	wantObs(t, "the first has sent another", r, refused(1), impl.Obs{Verdict: impl.Queued, Client: 1}, cookied(sentBy(1, 1, 1, 0, nil).Out, placeA, 3, 5), took(1))
	// The cookie is right for all at the source, but is only with the client that took it.
	r = impl.RunGate(c, script(draws(9), start(1), deliver(1), drain(), deliver(1), start(3), start(1), deliver(2), drain()))
	wantVerdicts(t, "the first is accepted", r, impl.Took, impl.Sent, impl.Sent, impl.Queued, impl.Accepted)
	wantObs(t, "the third has no cookie", impl.Report{Obs: r.Obs[:len(r.Obs)-3]}, took(1), sentBy(3, 2, 4, 0, nil))
}

// Of peers with one key the first that is known is told, and what is known of it holds for all.
func TestClientsWithOneKey(t *testing.T) {
	c := house(64)
	c.Clients = append(c.Clients, impl.Client{Private: clientPair(3).private, Src: placeB, Known: true}, impl.Client{Private: clientPair(2).private, Known: true})
	r := impl.RunGate(c, script(draws(4), start(4), deliver(1), drain(), tick(gap), start(3), deliver(1), drain(), start(4), deliver(1), drain()))
	seen := func(verdict int) impl.Obs { return impl.Obs{Verdict: verdict, Dh: 2, Client: 3} }
	n := len(r.Obs)
	wantVerdicts(t, "one key", r, impl.Accepted, impl.Ticked, impl.Sent, impl.Queued, impl.Accepted, impl.Sent, impl.Queued, impl.Replayed)
	if r.Obs[n-8].Client != 3 || r.Obs[n-4].Client != 3 || r.Obs[n-2].Client != 4 {
		t.Errorf("another client: %v", r.Obs)
	}
	wantObs(t, "the same time", r, seen(impl.Replayed))
	// Client 2 isn't known, but client 5 with its key is.
	r = impl.RunGate(c, script(draws(1), start(2), deliver(1), drain()))
	made := sentBy(2, 1, 1, 0, nil)
	wantObs(t, "known by another", r, made, impl.Obs{Verdict: impl.Queued, Client: 2},
		impl.Obs{Verdict: impl.Accepted, Dh: 2, Client: 5, Chain: made.Chain, Hash: made.Hash})
}

// The gate's own key may be a client's too.
func TestAClientWithTheKeyOfTheGate(t *testing.T) {
	c := house(64)
	c.Clients[0].Private = c.Private
	r := impl.RunGate(c, script(draws(1), start(1), deliver(1), drain()))
	wantVerdicts(t, "one key", r, impl.Sent, impl.Queued, impl.Accepted)
}

// What a restart empties: the queue, the secret, the limiter, load and what is known of the peers.
func TestRestartForgets(t *testing.T) {
	first := knock{n: 1, at: 9}.bytes()
	r := impl.RunGate(house(64), script(times(8, light()), drain(), restart(), drain(), times(64, light()), light()))
	wantVerdicts(t, "the queue", r, impl.Queued, impl.QueueFull)
	wantObs(t, "no packet", impl.Report{Obs: r.Obs[8:11]}, impl.Obs{Verdict: impl.BadMac1, Load: true}, obsOf(impl.Restarted), obsOf(impl.Idle))
	r = impl.RunGate(house(64), script(times(8, light()), drain(), drain(), restart(), light(), drain()))
	wantObs(t, "load", r, impl.Obs{Verdict: impl.BadMac1, Load: true}, obsOf(impl.Restarted), obsOf(impl.Queued), obsOf(impl.BadMac1))
	r = impl.RunGate(house(64), script(tick(5), knocked(placeA, first), knocked(placeA, first), restart(), knocked(placeA, first)))
	wantVerdicts(t, "the peers", r, impl.Accepted, impl.Queued, impl.Replayed, impl.Restarted, impl.Queued, impl.Accepted)
	r = impl.RunGate(house(64), script(knocked(placeA, first), restart(), knocked(placeA, knock{n: 1, at: 3}.bytes()), knocked(placeA, knock{n: 1, at: 4}.bytes())))
	wantVerdicts(t, "an earlier one", r, impl.Accepted, impl.Queued, impl.Flooded)
	old := noise(cookieAt(1, placeA))
	r = impl.RunGate(house(8), script(draws(4), knocked(placeA, noise(nil)), knocked(placeA, old), restart(), knocked(placeA, old)))
	wantObs(t, "the secret", r, badStatic(), obsOf(impl.Restarted), obsOf(impl.Queued), cookied(old, placeA, 3, 4))
	anew := noise(cookieAt(3, placeA))
	r = impl.RunGate(house(8), script(draws(4), knocked(placeA, noise(nil)), times(6, knocked(placeA, old)...), restart(), knocked(placeA, old),
		times(6, knocked(placeA, anew)...)))
	queued := impl.Queued
	wantVerdicts(t, "the limiter", r, impl.Limited, impl.Restarted, queued, impl.Cookied, queued, impl.BadStatic, queued, impl.BadStatic, queued, impl.BadStatic,
		queued, impl.BadStatic, queued, impl.BadStatic, queued, impl.Limited)
}

// Behind a restart the limiter counts from 0 again, neither from the restart nor from when it was swept before: a table of
// two is swept in its first use behind IdleTime, and not for IdleTime then.
func TestRestartAndSweeping(t *testing.T) {
	c := house(8)
	c.Table = 2
	const part = idle / 100
	at := func(src impl.Source, secret int) []impl.Op { return knocked(src, noise(cookieAt(secret, src))) }
	begin := script(draws(4), tick(50*part), restart(), knocked(placeA, noise(nil)))
	r := impl.RunGate(c, script(begin, tick(10*part), at(placeA, 1), tick(45*part), at(placeC, 1), tick(65*part), at(placeB, 1)))
	wantVerdicts(t, "swept at 105, not at 170", r, impl.BadStatic, impl.Ticked, impl.Queued, impl.BadStatic, impl.Ticked, impl.Queued, impl.Limited)
	begin = script(draws(4), knocked(placeA, noise(nil)), tick(150*part), at(placeA, 1), restart(), knocked(placeA, noise(nil)))
	r = impl.RunGate(c, script(begin, tick(10*part), at(placeA, 3), at(placeC, 3), tick(95*part), at(placeB, 3), tick(6*part), at(placeB, 3)))
	wantVerdicts(t, "swept at 160, at 261", r, impl.BadStatic, impl.Queued, impl.BadStatic, impl.Ticked, impl.Queued, impl.Limited, impl.Ticked, impl.Queued,
		impl.BadStatic)
}

// What a restart keeps: the clock, draws, flight, clients with their cookies, and the counts.
func TestRestartKeeps(t *testing.T) {
	r := impl.RunGate(house(8), asked(deliver(1), tick(1), start(1), restart(), restart(), deliver(1), drain(), deliver(1), tick(2), start(1)))
	second := sentBy(1, 2, 4, 1, cookieAt(2, placeA))
	wantObs(t, "flight, draws and cookie", r, second, obsOf(impl.Restarted), obsOf(impl.Restarted), impl.Obs{Verdict: impl.Queued, Client: 1},
		cookied(second.Out, placeA, 5, 6), took(1), obsOf(impl.Ticked), sentBy(1, 3, 7, 3, cookieAt(5, placeA)))
	r = impl.RunGate(house(8), asked(restart(), deliver(1), restart(), start(1)))
	wantObs(t, "the client's last", r, took(1), obsOf(impl.Restarted), sentBy(1, 2, 4, 0, cookieAt(2, placeA)))
	r = impl.RunGate(house(64), script(knocked(placeA, noise(nil)), restart(), knocked(placeA, noise(nil)), restart()))
	if r.Dh != 2 {
		t.Errorf("multiplications behind restarts: %d", r.Dh)
	}
}
