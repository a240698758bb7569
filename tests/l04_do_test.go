package tests

import (
	"testing"

	"loop.example/g00842/impl"
)

// P4: a word is given, among the others by its number.
func TestIssue(t *testing.T) {
	told(t, "to none", impl.Grant{}, issue(1, 1, "ba"), impl.Resp{Token: 1},
		impl.Grant{Words: []impl.Word{{No: 1, Client: 1, Shade: "ba", Till: 10}}})
	for _, no := range []int64{1, 9, 11, 15, 19, 21, 99} {
		r := issue(no, 3, "abcdefgh")
		told(t, named(r), twoWords(), r, impl.Resp{Token: no}, with(twoWords(), words(impl.Word{No: no, Client: 3, Shade: "abcdefgh", Till: 110})))
	}
	toldCode(t, "there", twoWords(), issue(10, 3, "abc"), impl.ErrThere)
	toldCode(t, "there, of the same client", twoWords(), issue(20, 2, "zyx"), impl.ErrThere)
	told(t, "of dead ones", with(twoWords(), dead(10, 20)), issue(15, 1, "a"), impl.Resp{Token: 15},
		with(twoWords(), dead(10, 20), words(impl.Word{No: 15, Client: 1, Shade: "a", Till: 110})))
}

// P4: there is room for MaxCodes words; that there is none is told ahead of all else.
func TestIssueFull(t *testing.T) {
	room := impl.Grant{Words: manyWords(impl.MaxCodes - 1)}
	told(t, "the last one", room, issue(20, 1, "ba"), impl.Resp{Token: 20},
		with(room, words(impl.Word{No: 20, Client: 1, Shade: "ba", Till: 10})))
	toldCode(t, "there, with room", room, issue(19, 1, "ba"), impl.ErrThere)
	full := impl.Grant{Words: manyWords(impl.MaxCodes)}
	toldCode(t, "full", full, issue(21, 1, "ba"), impl.ErrFull)
	toldCode(t, "full, and there", full, issue(20, 1, "ba"), impl.ErrFull)
}

// P4: times that are reckoned are no more than MaxTime.
func TestTimesAtTheEnd(t *testing.T) {
	for _, c := range []struct{ now, code, key, next int64 }{
		{impl.MaxTime, impl.MaxTime, impl.MaxTime, impl.MaxTime},
		{impl.MaxTime - 9, impl.MaxTime, impl.MaxTime, impl.MaxTime},
		{impl.MaxTime - 10, impl.MaxTime, impl.MaxTime, impl.MaxTime},
		{impl.MaxTime - 11, impl.MaxTime - 1, impl.MaxTime, impl.MaxTime},
		{impl.MaxTime - 59, impl.MaxTime - 49, impl.MaxTime, impl.MaxTime},
		{impl.MaxTime - 60, impl.MaxTime - 50, impl.MaxTime, impl.MaxTime},
		{impl.MaxTime - 61, impl.MaxTime - 51, impl.MaxTime - 1, impl.MaxTime},
		{impl.MaxTime - 299, impl.MaxTime - 289, impl.MaxTime - 239, impl.MaxTime},
		{impl.MaxTime - 300, impl.MaxTime - 290, impl.MaxTime - 240, impl.MaxTime},
		{impl.MaxTime - 301, impl.MaxTime - 291, impl.MaxTime - 241, impl.MaxTime - 1},
		{0, 10, 60, 300},
	} {
		g := impl.Grant{Now: c.now}
		given := with(g, words(impl.Word{No: 1, Client: 1, Shade: "ba", Till: c.code}))
		told(t, "a word", g, issue(1, 1, "ba"), impl.Resp{Token: 1}, given)
		first := with(given, used(0), keys(newKeys(2, 1, 1, c.key, c.next)...))
		told(t, "its keys", given, redeem(2, 1, 1, "ab"), impl.Resp{Token: 21, Next: 22}, first)
		told(t, "the next ones", first, refresh(3, 1, 22), impl.Resp{Token: 31, Next: 32}, with(first, state(1, 1), keys(newKeys(3, 1, 1, c.key, c.next)...)))
		then := impl.GrantAll(first, []impl.Req{tick(5, 1000), tick(6, 1000)}).Grant
		same(t, "opens at the end", impl.Opens(then, 21, 1), then.Now <= c.key)
		same(t, "the refresh opens at the end", impl.Opens(then, 22, 1), then.Now <= c.next)
	}
}

// newKeys is the two keys that a request of that number is given.
func newKeys(no, client, fam, till, nextTill int64) []impl.Key {
	return []impl.Key{{No: 10*no + 1, Client: client, Fam: fam, Till: till}, {No: 10*no + 2, Client: client, Fam: fam, Refresh: true, Till: nextTill}}
}

// P4: a word that was good once is good no more, and who comes with it again takes all that came of it.
func TestRedeem(t *testing.T) {
	g := twoWords()
	r := redeem(30, 2, 20, "xyz")
	then := with(g, used(1), keys(newKeys(30, 2, 20, 160, 400)...))
	told(t, "good once", g, r, impl.Resp{Token: 301, Next: 302}, then)
	same(t, "the key opens", impl.Opens(then, 301, 2), true)
	again := redeem(31, 2, 20, "xyz")
	killed := with(then, dead(20))
	told(t, "again", then, again, impl.Resp{Code: impl.ErrState}, killed)
	for _, no := range []int64{301, 302} {
		same(t, "a key that came of it", impl.Opens(killed, no, 2), false)
	}
	for _, no := range []int64{51, 52} {
		same(t, "a key that came of another", impl.Opens(killed, no, 1), true)
	}
	told(t, "once more", killed, again, impl.Resp{Code: impl.ErrState}, killed)
	told(t, "of both", killed, redeem(31, 1, 10, "ab"), impl.Resp{Code: impl.ErrState}, with(killed, dead(10, 20)))
	told(t, "the dead word between", with(g, dead(20)), redeem(31, 1, 10, "ab"), impl.Resp{Code: impl.ErrState}, with(g, dead(10, 20)))
	toldCode(t, "its next keys", killed, refresh(31, 2, 302), impl.ErrRange)
	// The smallest numbers, and the greatest.
	told(t, "among the others", g, redeem(1, 2, 20, "xyz"), impl.Resp{Token: 11, Next: 12}, with(g, used(1), keys(newKeys(1, 2, 20, 160, 400)...)))
	told(t, "behind the others", g, redeem(99, 2, 20, "xyz"), impl.Resp{Token: 991, Next: 992}, with(g, used(1), keys(newKeys(99, 2, 20, 160, 400)...)))
	same(t, "its own number", impl.GrantDo(g, redeem(20, 2, 20, "xyz")).Resp, impl.Resp{Token: 201, Next: 202})
}

// P4: a word is good till its time, and no later.
func TestRedeemInTime(t *testing.T) {
	for now, code := range map[int64]int64{0: impl.OK, 102: impl.OK, 103: impl.OK, 104: impl.ErrRange, 500: impl.ErrRange, impl.MaxTime: impl.ErrRange} {
		g := with(twoWords(), atTime(now))
		if code != impl.OK {
			toldCode(t, "later", g, redeem(30, 2, 20, "xyz"), code)
			continue
		}
		told(t, "in time", g, redeem(30, 2, 20, "xyz"), impl.Resp{Token: 301, Next: 302},
			with(g, used(1), keys(newKeys(30, 2, 20, now+60, now+300)...)))
	}
	toldCode(t, "dead", with(twoWords(), dead(20)), redeem(30, 2, 20, "xyz"), impl.ErrRange)
	toldCode(t, "dead, and later", with(twoWords(), dead(20), atTime(104)), redeem(30, 2, 20, "xyz"), impl.ErrRange)
	told(t, "another one dead", with(twoWords(), dead(10)), redeem(30, 2, 20, "xyz"), impl.Resp{Token: 301, Next: 302},
		with(twoWords(), dead(10), used(1), keys(newKeys(30, 2, 20, 160, 400)...)))
}

// P4: who is not the word's client, or does not know it, is told that there is none.
func TestRedeemNone(t *testing.T) {
	g := twoWords()
	for _, r := range []impl.Req{
		redeem(30, 2, 19, "xyz"), redeem(30, 2, 99, "xyz"), redeem(30, 1, 20, "xyz"), redeem(30, 3, 20, "xyz"), redeem(30, 2, 10, "ab"), redeem(30, 2, 10, "xyz"),
		redeem(30, 2, 20, "zyx"), redeem(30, 2, 20, "xy"), redeem(30, 2, 20, "yz"), redeem(30, 2, 20, "xyzx"), redeem(30, 2, 20, "wxyz"), redeem(30, 2, 20, "xzy"),
		// A used word's: nothing comes of it, since it is no one's who knows it.
		redeem(30, 1, 10, "ba"), redeem(30, 2, 10, "ab"), redeem(30, 3, 10, "ab"), redeem(30, 1, 10, "abb"), redeem(30, 1, 51, "ab"),
	} {
		toldCode(t, named(r), g, r, impl.ErrNone)
		toldCode(t, named(r)+", later, and dead", with(g, atTime(106), dead(10, 20)), r, impl.ErrNone)
	}
	toldCode(t, "of none", impl.Grant{}, redeem(2, 1, 1, "ab"), impl.ErrNone)
	same(t, "a proof that is its own shade", impl.GrantDo(with(g, words(impl.Word{No: 30, Client: 1, Shade: "aba", Till: 100})), redeem(2, 1, 30, "aba")).Resp.Code, impl.OK)
}

// P4: two keys more have to have room, and numbers of their own; that is told ahead of all that is asked of the word or the key.
func TestRoomForKeys(t *testing.T) {
	of := func(n int) impl.Grant {
		return impl.Grant{
			Words: []impl.Word{{No: 1, Client: 1, Shade: "ba", Till: 5}, {No: 2, Client: 1, Shade: "ba", Till: 5, Used: true}, {No: 3, Client: 1, Shade: "ba", Till: 5}},
			Keys:  manyKeys(n), Dead: []int64{3},
		}
	}
	room := of(impl.MaxKeys - 2)
	told(t, "the last two", room, redeem(50, 1, 1, "ab"), impl.Resp{Token: 501, Next: 502}, with(room, used(0), keys(newKeys(50, 1, 1, 60, 300)...)))
	told(t, "the last two of a key", room, refresh(50, 1, 102), impl.Resp{Token: 501, Next: 502}, with(room, state(1, 1), keys(newKeys(50, 1, 1, 60, 300)...)))
	for _, n := range []int{impl.MaxKeys - 1, impl.MaxKeys} {
		g := with(of(n), state(1, 1))
		for _, r := range []impl.Req{
			redeem(50, 1, 1, "ab"), redeem(50, 1, 1, "ba"), redeem(50, 1, 2, "ab"), redeem(50, 1, 3, "ab"), redeem(50, 2, 1, "ab"), redeem(50, 1, 9, "ab"), redeem(10, 1, 1, "ab"), redeem(10, 1, 9, "ab"),
			refresh(50, 1, 104), refresh(50, 1, 102), refresh(50, 1, 101), refresh(50, 1, 999), refresh(50, 2, 104), refresh(10, 1, 104), refresh(10, 1, 999),
		} {
			toldCode(t, named(r), g, r, impl.ErrFull)
		}
		same(t, "a word has room", impl.GrantDo(g, issue(9, 1, "ab")).Resp, impl.Resp{Token: 9})
		same(t, "what is asked has room", impl.GrantDo(g, ask(9, 1, 101)).Resp, impl.Resp{Yes: true})
	}
}

// P4: the numbers of the two new keys, one of them there, or both, is told behind that there is no room, and ahead of all else.
func TestKeysThere(t *testing.T) {
	one := impl.Key{No: 301, Client: 3, Fam: 20}
	two := impl.Key{No: 302, Client: 3, Fam: 20, State: 2}
	for what, g := range map[string]impl.Grant{
		"the first": with(twoWords(), keys(one)), "the second": with(twoWords(), keys(two)), "both": with(twoWords(), keys(one, two)),
	} {
		for _, r := range []impl.Req{
			redeem(30, 2, 20, "xyz"), redeem(30, 2, 20, "zyx"), redeem(30, 1, 10, "ab"), redeem(30, 1, 99, "ab"), refresh(30, 1, 52), refresh(30, 1, 51), refresh(30, 2, 52), refresh(30, 1, 999),
		} {
			toldCode(t, what+", "+named(r), g, r, impl.ErrThere)
			later := with(g, atTime(500), dead(10, 20), state(1, 1))
			toldCode(t, what+", later, "+named(r), later, r, impl.ErrThere)
		}
		same(t, what+", a word", impl.GrantDo(g, issue(30, 1, "ab")).Resp, impl.Resp{Token: 30})
		same(t, what+", another", impl.GrantDo(g, redeem(31, 2, 20, "xyz")).Resp, impl.Resp{Token: 311, Next: 312})
	}
	near := with(twoWords(), keys(impl.Key{No: 300, Client: 1, Fam: 10}, impl.Key{No: 303, Client: 1, Fam: 10}, impl.Key{No: 30, Client: 1, Fam: 10}))
	same(t, "near them", impl.GrantDo(near, redeem(30, 2, 20, "xyz")).Resp, impl.Resp{Token: 301, Next: 302})
	same(t, "its own number", impl.GrantDo(twoWords(), refresh(5, 1, 52)).Resp, impl.Resp{Code: impl.ErrThere})
}

// P4: a key for the next ones is good once, and who comes with it again takes all that came of its word.
func TestRefresh(t *testing.T) {
	g := twoWords()
	then := with(g, state(1, 1), keys(newKeys(30, 1, 10, 160, 400)...))
	told(t, "good once", g, refresh(30, 1, 52), impl.Resp{Token: 301, Next: 302}, then)
	for no, want := range map[int64]bool{51: true, 52: false, 301: true, 302: true} {
		same(t, "a key of it opens", impl.Opens(then, no, 1), want)
	}
	killed := with(then, dead(10))
	told(t, "again", then, refresh(31, 1, 52), impl.Resp{Code: impl.ErrState}, killed)
	for _, no := range []int64{51, 52, 301, 302} {
		same(t, "a key of it, killed", impl.Opens(killed, no, 1), false)
	}
	told(t, "once more", killed, refresh(31, 1, 52), impl.Resp{Code: impl.ErrState}, killed)
	told(t, "again, later", with(then, atTime(900)), refresh(31, 1, 52), impl.Resp{Code: impl.ErrState}, with(killed, atTime(900)))
	toldCode(t, "the next one of it", killed, refresh(31, 1, 302), impl.ErrRange)
	told(t, "the next one", then, refresh(31, 1, 302), impl.Resp{Token: 311, Next: 312}, with(then, state(3, 1), keys(newKeys(31, 1, 10, 160, 400)...)))
	told(t, "of a word that is over", with(g, atTime(130)), refresh(30, 1, 52), impl.Resp{Token: 301, Next: 302},
		with(g, atTime(130), state(1, 1), keys(newKeys(30, 1, 10, 190, 430)...)))
	told(t, "beside a revoked key", with(g, state(0, 2)), refresh(1, 1, 52), impl.Resp{Token: 11, Next: 12},
		with(g, state(0, 2), state(1, 1), keys(newKeys(1, 1, 10, 160, 400)...)))
	// A key that is another client's than its word is: its family is the word, and the new ones' client is its own.
	other := with(g, keys(impl.Key{No: 60, Client: 3, Fam: 20, Refresh: true, Till: 100}))
	told(t, "of another client than the word", other, refresh(30, 3, 60), impl.Resp{Token: 301, Next: 302}, with(other, state(2, 1), keys(newKeys(30, 3, 20, 160, 400)...)))
}

// P4: a key for the next ones is good till its time, and no later.
func TestRefreshInTime(t *testing.T) {
	for now, code := range map[int64]int64{0: impl.OK, 139: impl.OK, 140: impl.OK, 141: impl.ErrRange, impl.MaxTime: impl.ErrRange} {
		g := with(twoWords(), atTime(now))
		if code != impl.OK {
			toldCode(t, "later", g, refresh(30, 1, 52), code)
			continue
		}
		told(t, "in time", g, refresh(30, 1, 52), impl.Resp{Token: 301, Next: 302}, with(g, state(1, 1), keys(newKeys(30, 1, 10, now+60, now+300)...)))
	}
	toldCode(t, "dead", with(twoWords(), dead(10)), refresh(30, 1, 52), impl.ErrRange)
	toldCode(t, "dead, and later", with(twoWords(), dead(10), atTime(141)), refresh(30, 1, 52), impl.ErrRange)
	same(t, "another one dead", impl.GrantDo(with(twoWords(), dead(20)), refresh(30, 1, 52)).Resp, impl.Resp{Token: 301, Next: 302})
}

// P4: a key of another client, a key that is no refresh, and no key.
func TestRefreshNone(t *testing.T) {
	for _, r := range []impl.Req{refresh(30, 2, 52), refresh(30, 3, 52), refresh(30, 1, 51), refresh(30, 2, 51), refresh(30, 1, 53), refresh(30, 1, 10), refresh(30, 1, 999), refresh(30, 1, 1)} {
		toldCode(t, named(r), twoWords(), r, impl.ErrNone)
		toldCode(t, named(r)+", used", with(twoWords(), state(0, 1), state(1, 1)), r, impl.ErrNone)
		toldCode(t, named(r)+", revoked, later, and dead", with(twoWords(), state(0, 2), state(1, 1), atTime(500), dead(10, 20)), r, impl.ErrNone)
	}
	toldCode(t, "of none", impl.Grant{}, refresh(30, 1, 52), impl.ErrNone)
}

// P4: a key that is revoked opens nothing; of one for the next ones, all that came of its word.
func TestRevoke(t *testing.T) {
	g := twoWords()
	told(t, "a key", g, revoke(30, 1, 51), impl.Resp{}, with(g, state(0, 2)))
	told(t, "again", with(g, state(0, 2)), revoke(30, 1, 51), impl.Resp{}, with(g, state(0, 2)))
	told(t, "a key of state 1", with(g, state(0, 1)), revoke(30, 1, 51), impl.Resp{}, with(g, state(0, 2)))
	told(t, "a key that is over, and dead", with(g, atTime(500), dead(10)), revoke(30, 1, 51), impl.Resp{}, with(g, atTime(500), dead(10), state(0, 2)))
	told(t, "a refresh", g, revoke(30, 1, 52), impl.Resp{}, with(g, dead(10)))
	told(t, "a refresh again", with(g, dead(10)), revoke(30, 1, 52), impl.Resp{}, with(g, dead(10)))
	told(t, "a refresh that was used", with(g, state(1, 1)), revoke(30, 1, 52), impl.Resp{}, with(g, state(1, 1), dead(10)))
	told(t, "a refresh that is over", with(g, atTime(500)), revoke(30, 1, 52), impl.Resp{}, with(g, atTime(500), dead(10)))
	told(t, "a refresh, with another one dead", with(g, dead(20)), revoke(30, 1, 52), impl.Resp{}, with(g, dead(10, 20)))
	for _, r := range []impl.Req{revoke(30, 2, 51), revoke(30, 2, 52), revoke(30, 3, 52), revoke(30, 1, 53), revoke(30, 1, 999), revoke(30, 1, 10)} {
		toldCode(t, named(r), g, r, impl.OK)
	}
	toldCode(t, "of none", impl.Grant{}, revoke(30, 1, 51), impl.OK)
	full := impl.Grant{Words: manyWords(impl.MaxCodes), Keys: manyKeys(impl.MaxKeys)}
	told(t, "of full lists", full, revoke(1, 1, 101), impl.Resp{}, with(full, state(0, 2)))
}

// P4: what opens, asked in both ways.
func TestAsk(t *testing.T) {
	g := twoWords()
	cases := []struct {
		what       string
		g          impl.Grant
		no, client int64
		want       bool
	}{
		{"a key", g, 51, 1, true},
		{"a refresh", g, 52, 1, true},
		{"a key of another client", g, 51, 2, false},
		{"a refresh of another client", g, 52, 3, false},
		{"no key", g, 53, 1, false},
		{"a word", g, 10, 1, false},
		{"of none", impl.Grant{}, 51, 1, false},
		{"at its time", with(g, atTime(120)), 51, 1, true},
		{"one later", with(g, atTime(121)), 51, 1, false},
		{"a refresh at its time", with(g, atTime(140)), 52, 1, true},
		{"a refresh one later", with(g, atTime(141)), 52, 1, false},
		{"ahead of its time", with(g, atTime(0)), 51, 1, true},
		{"at the end of time", with(g, atTime(impl.MaxTime)), 51, 1, false},
		{"till the end of time", with(g, atTime(impl.MaxTime), keys(impl.Key{No: 999, Client: 3, Fam: 20, Till: impl.MaxTime})), 999, 3, true},
		{"of state 1", with(g, state(0, 1)), 51, 1, false},
		{"revoked", with(g, state(0, 2)), 51, 1, false},
		{"beside a revoked one", with(g, state(0, 2)), 52, 1, true},
		{"a refresh that was used", with(g, state(1, 1)), 52, 1, false},
		{"beside a refresh that was used", with(g, state(1, 1)), 51, 1, true},
		{"dead", with(g, dead(10)), 51, 1, false},
		{"a refresh that is dead", with(g, dead(10)), 52, 1, false},
		{"all dead", with(g, dead(10, 20)), 51, 1, false},
		{"another one dead", with(g, dead(20)), 51, 1, true},
		{"at the begin of time", impl.Grant{Words: manyWords(1), Keys: []impl.Key{{No: 1, Client: 1, Fam: 1}}}, 1, 1, true},
		{"dead at the begin of time", impl.Grant{Words: manyWords(1), Keys: []impl.Key{{No: 1, Client: 1, Fam: 1}}, Dead: []int64{1}}, 1, 1, false},
	}
	for _, c := range cases {
		same(t, c.what, impl.Opens(c.g, c.no, c.client), c.want)
		told(t, c.what, c.g, ask(99, c.client, c.no), impl.Resp{Yes: c.want}, c.g)
	}
	for _, no := range []int64{0, -51, 1000, 51 + 1<<32, -1 << 63, 1<<63 - 1} {
		same(t, "no number of a key", impl.Opens(g, no, 1), false)
		same(t, "no client", impl.Opens(g, 51, no), false)
	}
	same(t, "no right grant", impl.Opens(with(g, dead(20, 10)), 51, 1), false)
	same(t, "no right time", impl.Opens(with(g, atTime(-1)), 51, 1), false)
}

// P4: time goes on, to MaxTime at most, and with it nothing else.
func TestTick(t *testing.T) {
	for _, c := range []struct{ now, by, then int64 }{
		{0, 1, 1}, {0, 1000, 1000}, {100, 61, 161}, {impl.MaxTime - 1, 1, impl.MaxTime}, {impl.MaxTime - 1, 2, impl.MaxTime}, {impl.MaxTime - 1000, 1000, impl.MaxTime},
		{impl.MaxTime - 1000, 999, impl.MaxTime - 1}, {impl.MaxTime - 999, 1000, impl.MaxTime}, {impl.MaxTime, 1, impl.MaxTime}, {impl.MaxTime, 1000, impl.MaxTime},
	} {
		g := with(twoWords(), atTime(c.now), dead(20), state(0, 2))
		told(t, named(tick(30, c.by)), g, tick(30, c.by), impl.Resp{}, with(g, atTime(c.then)))
	}
}
