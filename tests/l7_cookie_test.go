package tests

import (
	"math"
	"testing"

	"loop.example/s02974/impl"
)

// cookied is what should be seen of a packet that is sent back for a cookie; secret and nonce are numbers of draws.
func cookied(data []byte, to impl.Source, secret, nonce int) impl.Obs {
	m, _ := impl.ParseInitiation(data)
	n := drawNumber(nonce)
	reply := impl.MakeReply(m, gatePair().public, impl.CookieOf(drawNumber(secret), to), [24]byte(n[:24]))
	return impl.Obs{Verdict: impl.Cookied, Load: true, To: to, Out: replyBytes(reply)}
}

// knocked is a packet that arrives and is drained.
func knocked(src impl.Source, data []byte) []impl.Op {
	return script(arrive(src, data), drain())
}

func noDraw() impl.Obs {
	return impl.Obs{Verdict: impl.NoDraw, Load: true}
}

func badStatic() impl.Obs {
	return impl.Obs{Verdict: impl.BadStatic, Load: true, Dh: 1}
}

// The first reply wants a secret and a nonce, the next ones a nonce alone.
func TestDrawsOfReplies(t *testing.T) {
	r := impl.RunGate(house(8), script(draws(4), knocked(placeA, noise(nil)), knocked(placeC, knock{n: 1}.bytes()), knocked(placeA, noise(nil))))
	queued := obsOf(impl.Queued)
	wantObs(t, "three replies", r, cookied(noise(nil), placeA, 1, 2), queued, cookied(knock{n: 1}.bytes(), placeC, 1, 3), queued, cookied(noise(nil), placeA, 1, 4))
}

// A reply that lacks a draw takes none and makes no secret; what was there is still there for an initiation.
func TestTooFewDraws(t *testing.T) {
	queued := obsOf(impl.Queued)
	r := impl.RunGate(house(8), script(knocked(placeA, noise(nil)), drain(), start(1)))
	wantObs(t, "two wanted, none there", r, noDraw(), obsOf(impl.Idle), obsOf(impl.NoDraw))
	r = impl.RunGate(house(8), script(draws(1), knocked(placeA, noise(nil)), knocked(placeA, noise(nil)), deliver(1), start(1), start(1)))
	wantObs(t, "two wanted, one there", r, noDraw(), queued, noDraw(), obsOf(impl.NoFlight), sentBy(1, 1, 1, 0, nil), obsOf(impl.NoDraw))
	r = impl.RunGate(house(8), script(draws(2), knocked(placeA, noise(nil)), knocked(placeA, noise(nil)), knocked(placeA, noise(cookieAt(1, placeA)))))
	wantObs(t, "one wanted, none there", r, cookied(noise(nil), placeA, 1, 2), queued, noDraw(), queued, badStatic())
	second, third := drawNumber(2), drawNumber(3)
	r = impl.RunGate(house(8), script(draws(1), knocked(placeA, noise(nil)), draw(second[:]), draw(third[:]), knocked(placeA, noise(nil)), start(1)))
	wantObs(t, "one there, and another then", r, cookied(noise(nil), placeA, 1, 2), sentBy(1, 1, 3, 0, nil))
}

// A secret is good up to its age and no longer; a new one is made then, and what it made is good for as long again.
func TestAgeOfTheSecret(t *testing.T) {
	queued, ticked := obsOf(impl.Queued), obsOf(impl.Ticked)
	right, anew := noise(cookieAt(1, placeA)), noise(cookieAt(3, placeA))
	begin := script(tick(77), draws(6), knocked(placeA, noise(nil)))
	r := impl.RunGate(house(8), script(begin, tick(age), knocked(placeA, right), knocked(placeB, right)))
	wantObs(t, "just its age", r, badStatic(), queued, cookied(right, placeB, 1, 3))
	r = impl.RunGate(house(8), script(begin, tick(age+1), knocked(placeA, right), knocked(placeA, right), knocked(placeA, anew), tick(age), knocked(placeA, anew)))
	wantObs(t, "one more", r, cookied(right, placeA, 3, 4), queued, cookied(right, placeA, 3, 5), queued, badStatic(), ticked, queued, badStatic())
	r = impl.RunGate(house(8), script(begin, tick(age+1), knocked(placeA, right), tick(age+1), knocked(placeA, anew)))
	wantObs(t, "one more, twice", r, cookied(anew, placeA, 5, 6))
	// A reply of a secret that is still good doesn't make it younger.
	r = impl.RunGate(house(8), script(begin, tick(age), knocked(placeA, noise(nil)), tick(1), knocked(placeA, right)))
	wantObs(t, "not made younger", r, cookied(right, placeA, 4, 5))
}

// A secret that is too old and too few draws: the old one is kept, and is none the better for it.
func TestOldSecretAndTooFewDraws(t *testing.T) {
	queued := obsOf(impl.Queued)
	right := noise(cookieAt(1, placeA))
	begin := script(draws(3), knocked(placeA, noise(nil)), tick(age+1))
	r := impl.RunGate(house(8), script(begin, knocked(placeA, right), knocked(placeA, right), start(3)))
	wantObs(t, "one draw too few", r, noDraw(), queued, noDraw(), sentBy(3, 1, 3, age+1, nil))
}

// Ages at the greatest times, where a sum would wrap.
func TestAgesNearTheGreatestTime(t *testing.T) {
	right := noise(cookieAt(1, placeA))
	r := impl.RunGate(house(8), script(tick(greatest-age), draws(3), knocked(placeA, noise(nil)), tick(greatest), knocked(placeA, right)))
	wantObs(t, "just its age", r, badStatic())
	r = impl.RunGate(house(8), script(tick(greatest-age-1), draws(4), knocked(placeA, noise(nil)), tick(greatest), knocked(placeA, right)))
	wantObs(t, "one more", r, cookied(right, placeA, 3, 4))
	r = impl.RunGate(house(8), script(draws(4), knocked(placeA, noise(nil)), tick(greatest), knocked(placeA, right)))
	wantObs(t, "all of the time", r, cookied(right, placeA, 3, 4))
	r = impl.RunGate(house(8), script(draws(4), start(1), deliver(1), drain(), deliver(1), tick(greatest), start(1)))
	wantObs(t, "a cookie of all of the time", r, sentBy(1, 2, 4, greatest, nil))
}

// A cookie is that of a source: all that its bytes have counts, and the address's rest doesn't.
func TestCookiesOfOtherSources(t *testing.T) {
	right := noise(cookieAt(1, placeA))
	begin := script(draws(3), knocked(placeB, noise(nil)))
	port, rest, six := placeA, placeA, placeA
	port.Port++
	rest.Addr[15] = 9
	six.V6 = true
	for _, src := range []impl.Source{port, six, placeB, placeC} {
		r := impl.RunGate(house(8), script(begin, knocked(src, right)))
		wantObs(t, "another source", r, cookied(right, src, 1, 3))
	}
	r := impl.RunGate(house(8), script(begin, knocked(rest, right), knocked(rest, noise(nil))))
	wantObs(t, "bytes that don't count", r, badStatic(), obsOf(impl.Queued), cookied(noise(nil), rest, 1, 3))
}

// Before there is a secret none of zeros is taken for one, and one that a restart has emptied isn't either.
func TestCookiesWithoutASecret(t *testing.T) {
	cookie := impl.CookieOf([32]byte{}, placeA)
	r := impl.RunGate(house(8), script(draws(2), knocked(placeA, noise(&cookie))))
	wantObs(t, "no secret", r, cookied(noise(&cookie), placeA, 1, 2))
	r = impl.RunGate(house(8), script(draws(4), knocked(placeA, noise(nil)), restart(), knocked(placeA, noise(&cookie))))
	wantObs(t, "none any more", r, cookied(noise(&cookie), placeA, 3, 4))
	r = impl.RunGate(house(8), script(draw(make([]byte, 32)), draws(2), knocked(placeA, noise(nil)), knocked(placeA, noise(&cookie))))
	wantObs(t, "a secret of zeros", r, badStatic())
}

// A wrong Mac1 is told ahead of all that Mac2 leads to.
func TestWrongMac1UnderLoad(t *testing.T) {
	wrong, forged := noise(nil), noise(cookieAt(1, placeA))
	wrong[131] ^= 0x80
	forged[130] ^= 1
	m, _ := impl.ParseInitiation(forged)
	cookie := cookieAt(1, placeA)
	m.Mac2 = impl.Mac(cookie[:], forged[:132])
	bad := impl.Obs{Verdict: impl.BadMac1, Load: true}
	r := impl.RunGate(house(8), script(knocked(placeA, wrong), draws(2), knocked(placeA, wrong), knocked(placeA, noise(nil)), knocked(placeA, initiationBytes(m))))
	wantObs(t, "a wrong mac", r, bad, obsOf(impl.Drawn), obsOf(impl.Drawn), obsOf(impl.Queued), bad, obsOf(impl.Queued), cookied(noise(nil), placeA, 1, 2),
		obsOf(impl.Queued), bad)
}

// Without load neither Mac2 nor the limiter nor a draw matters.
func TestNoCookieWithoutLoad(t *testing.T) {
	wrong := noise(&[16]byte{1})
	one := impl.Obs{Verdict: impl.BadStatic, Dh: 1}
	r := impl.RunGate(house(64), script(draws(2), times(9, knocked(placeA, wrong)...), start(1)))
	wantObs(t, "many of one key", r, one, obsOf(impl.Queued), one, obsOf(impl.Queued), one, obsOf(impl.Queued), one, sentBy(1, 1, 1, 0, nil))
	right := noise(cookieAt(1, placeA))
	two := script(draws(2), times(2, arrive(placeA, right)), drain(), drain())
	r = impl.RunGate(house(16), script(knocked(placeA, right), knocked(placeA, right), two, times(6, knocked(placeA, right)...)))
	wantVerdicts(t, "quiet ones aren't counted", r, impl.BadStatic, impl.Queued, impl.BadStatic, impl.Queued, impl.BadStatic, impl.Queued, impl.Limited,
		impl.Queued, impl.Limited)
}

// Five at once, one more for each cost that goes by; who is limited isn't opened.
func TestLimited(t *testing.T) {
	right, other := noise(cookieAt(1, placeA)), noise(cookieAt(1, placeC))
	begin := script(draws(2), knocked(placeA, noise(nil)))
	limited := impl.Obs{Verdict: impl.Limited, Load: true}
	queued, ticked := obsOf(impl.Queued), obsOf(impl.Ticked)
	r := impl.RunGate(house(8), script(begin, times(5, knocked(placeA, right)...), knocked(placeA, right), knocked(placeC, other),
		tick(cost-1), knocked(placeA, right), tick(1), knocked(placeA, right), knocked(placeA, right)))
	wantObs(t, "five", r, badStatic(), queued, limited, queued, badStatic(), ticked, queued, limited, ticked, queued, badStatic(), queued, limited)
	// A port and the rest of an address are of one key, but not of one cookie.
	port := placeA
	port.Port++
	r = impl.RunGate(house(8), script(begin, times(5, knocked(placeA, right)...), knocked(port, noise(cookieAt(1, port)))))
	wantObs(t, "one key", r, limited)
}

// A table of one holds one key. One that would be too great for the limiter is cut, and not refused.
func TestSizesOfTheTable(t *testing.T) {
	right, other := noise(cookieAt(1, placeA)), noise(cookieAt(1, placeC))
	limited := impl.Obs{Verdict: impl.Limited, Load: true}
	for size, second := range map[int]impl.Obs{math.MinInt: limited, -1: limited, 0: limited, 1: limited, 2: badStatic(), 4096: badStatic(),
		4097: badStatic(), math.MaxInt: badStatic()} {
		c := house(8)
		c.Table = size
		r := impl.RunGate(c, script(draws(2), knocked(placeA, noise(nil)), knocked(placeA, right), knocked(placeC, other), knocked(placeA, right)))
		wantObs(t, "the table's size", r, badStatic(), obsOf(impl.Queued), second, obsOf(impl.Queued), badStatic())
	}
}

// In a table of one, an idle key is swept away for another, just behind its time.
func TestTheTableIsSwept(t *testing.T) {
	right, other := noise(cookieAt(1, placeA)), noise(cookieAt(1, placeC))
	c := house(8)
	c.Table = 1
	for _, k := range []struct{ wait, verdict int }{{idle, impl.Limited}, {idle + 1, impl.BadStatic}} {
		r := impl.RunGate(c, script(draws(2), knocked(placeA, noise(nil)), knocked(placeA, right), tick(k.wait), knocked(placeC, other)))
		wantVerdicts(t, "swept", r, k.verdict)
	}
}
