package tests

import (
	"fmt"
	"math"
	"testing"

	"loop.example/g00842/impl"
)

// P5, row "RqIssue, RqTick, any": it ends with what GrantDo tells, and does, whoever kills.
func TestStepWhole(t *testing.T) {
	word := impl.Word{No: 30, Client: 3, Shade: "abc", Till: 110}
	full := store(impl.Store{}, granted(words(manyWords(impl.MaxCodes)...)))
	for pc := range int64(10) {
		for _, change := range []func(*impl.Store){version(6), version(7), locked(30), locked(9), version(impl.MaxTime)} {
			s := store(twoCached(), change)
			what := fmt.Sprint(", at ", pc, ", of ", s.Ver, " and ", s.Lock)
			ends(t, "issue"+what, s, at(issue(30, 3, "abc"), pc), impl.Resp{Token: 30}, store(s, granted(words(word))))
			ends(t, "tick"+what, s, at(tick(30, 5), pc), impl.Resp{}, store(s, granted(atTime(105))))
			endsWith(t, "there"+what, s, at(issue(20, 3, "abc"), pc), impl.ErrThere)
		}
		endsWith(t, fmt.Sprint("full, at ", pc), full, at(issue(20, 3, "abc"), pc), impl.ErrFull)
		late := store(twoCached(), granted(atTime(impl.MaxTime-3)))
		ends(t, fmt.Sprint("to the end, at ", pc), late, at(tick(30, 1000), pc), impl.Resp{}, store(late, granted(atTime(impl.MaxTime))))
	}
}

// filled is a store of twoWords with so many keys more that there are n.
func filled(n int) impl.Store {
	g := with(twoWords(), keys(manyKeys(n-2)...))
	for i := range g.Keys {
		g.Keys[i].Fam = 10
	}
	return impl.Store{Grant: g, Ver: 6}
}

// P5, rows "RqRedeem, 0" and "RqRefresh, 0": no room, a key that is there, and what is not there end it, in this order; nothing else does.
func TestStepFirst(t *testing.T) {
	for what, r := range map[string]impl.Req{"redeem": redeem(30, 2, 20, "xyz"), "refresh": refresh(30, 1, 52)} {
		s := twoCached()
		goes(t, what, s, at(r, 0), 1, s)
		for _, change := range []func(*impl.Store){version(7), locked(9), locked(30), version(impl.MaxTime)} {
			goes(t, what+", killed", store(s, change), at(r, 0), 1, store(s, change))
		}
		goes(t, what+", used", store(s, granted(used(1), state(1, 1))), at(r, 0), 1, store(s, granted(used(1), state(1, 1))))
		goes(t, what+", dead", store(s, granted(dead(10, 20))), at(r, 0), 1, store(s, granted(dead(10, 20))))
		goes(t, what+", late", store(s, granted(atTime(141))), at(r, 0), 1, store(s, granted(atTime(141))))
		other := r
		other.Client = 3
		endsWith(t, what+", another client's", s, at(other, 0), impl.ErrNone)
		for _, no := range []int64{301, 302} {
			there := store(s, granted(keys(impl.Key{No: no, Client: 3, Fam: 20})))
			endsWith(t, fmt.Sprint(what, ", there ", no), there, at(r, 0), impl.ErrThere)
			endsWith(t, fmt.Sprint(what, ", there ", no, ", another client's"), there, at(other, 0), impl.ErrThere)
		}
		for _, no := range []int64{300, 303} {
			near := store(s, granted(keys(impl.Key{No: no, Client: 3, Fam: 20})))
			goes(t, fmt.Sprint(what, ", there ", no), near, at(r, 0), 1, near)
		}
		goes(t, what+", the last room", filled(38), at(r, 0), 1, filled(38))
		endsWith(t, what+", one short", filled(39), at(r, 0), impl.ErrFull)
		endsWith(t, what+", full", filled(40), at(r, 0), impl.ErrFull)
		endsWith(t, what+", full, another client's", filled(40), at(other, 0), impl.ErrFull)
	}
	s := twoCached()
	endsWith(t, "another shade", s, at(redeem(30, 2, 20, "zyx"), 0), impl.ErrNone)
	endsWith(t, "no such word", s, at(redeem(30, 2, 21, "xyz"), 0), impl.ErrNone)
	endsWith(t, "no such key", s, at(refresh(30, 1, 54), 0), impl.ErrNone)
	endsWith(t, "a key that is no refresh", s, at(refresh(30, 1, 51), 0), impl.ErrNone)
}

// P5, row "RqRedeem, 1": the word is used, too late or dead, one of the keys is there, or all is given at once.
func TestStepRedeem(t *testing.T) {
	s := twoCached()
	r := redeem(30, 2, 20, "xyz")
	given := impl.Resp{Token: 301, Next: 302}
	gives := func(what string, s impl.Store, till, next int64) {
		t.Helper()
		ends(t, what, s, at(r, 1), given, store(s, granted(used(1), keys(newKeys(30, 2, 20, till, next)...))))
	}
	gives("good", s, 160, 400)
	gives("good, while another one kills", store(s, version(7), locked(9)), 160, 400)
	gives("good, at the end", store(s, granted(atTime(103))), 163, 403)
	endsWith(t, "one late", store(s, granted(atTime(104))), at(r, 1), impl.ErrRange)
	endsWith(t, "dead", store(s, granted(dead(20))), at(r, 1), impl.ErrRange)
	gives("another one dead", store(s, granted(dead(10))), 160, 400)
	stolen := store(s, granted(used(1)))
	goes(t, "used", stolen, at(r, 1), 5, stolen)
	worse := store(s, granted(used(1), dead(20), atTime(104), keys(newKeys(30, 2, 20, 160, 400)...)))
	goes(t, "used, dead, late and there", worse, at(r, 1), 5, worse)
	for _, no := range []int64{301, 302} {
		there := store(s, granted(keys(impl.Key{No: no, Client: 3, Fam: 20})))
		endsWith(t, fmt.Sprint("there meanwhile ", no), there, at(r, 1), impl.ErrThere)
		endsWith(t, fmt.Sprint("late, and there meanwhile ", no), store(there, granted(atTime(104))), at(r, 1), impl.ErrRange)
		endsWith(t, fmt.Sprint("dead, and there meanwhile ", no), store(there, granted(dead(20))), at(r, 1), impl.ErrRange)
	}
	endsWith(t, "not there", s, at(redeem(30, 2, 21, "xyz"), 1), impl.ErrNone)
	endsWith(t, "another client's", s, at(redeem(30, 1, 20, "xyz"), 1), impl.ErrNone)
	endsWith(t, "another client's, used", s, at(redeem(30, 2, 10, "ab"), 1), impl.ErrNone)
	late := store(s, granted(atTime(impl.MaxTime), func(g *impl.Grant) { g.Words[1].Till = impl.MaxTime }))
	gives("good, at the end of time", late, impl.MaxTime, impl.MaxTime)
}

// P5: a redeem needs the word whose shade is that of its proof at each step, whatever has become of the word.
func TestStepOfOtherProof(t *testing.T) {
	s := store(twoCached(), locked(30), version(7))
	for _, change := range []func(*impl.Grant){atTime(100), used(1), dead(20), atTime(104), keys(newKeys(30, 2, 20, 160, 400)...)} {
		s := store(s, granted(change))
		for _, proof := range []string{"zyx", "z", "x", "xy", "yz", "xyzz", "xyzxyz", "xyzabcde", "axyz", "yxz", "ab"} {
			for _, pc := range []int64{1, 7} {
				endsWith(t, fmt.Sprint(proof, " at ", pc), s, at(redeem(30, 2, 20, proof), pc), impl.ErrNone)
			}
		}
	}
	alike := store(s, granted(func(g *impl.Grant) { g.Words[1].Shade = "zyyz" }))
	r := redeem(30, 2, 20, "zyyz")
	goes(t, "alike from both ends", alike, at(r, 7), 8, store(alike, granted(dead(20))))
	given := store(alike, granted(used(1), keys(newKeys(30, 2, 20, 160, 400)...)))
	ends(t, "alike from both ends, good", alike, at(r, 1), impl.Resp{Token: 301, Next: 302}, given)
}

// P5: whether there is room is asked at the first step alone.
func TestStepGivesInFull(t *testing.T) {
	for n := 38; n <= 40; n++ {
		s := filled(n)
		given := impl.Resp{Token: 301, Next: 302}
		ends(t, fmt.Sprint("redeem of ", n), s, at(redeem(30, 2, 20, "xyz"), 1), given, store(s, granted(used(1), keys(newKeys(30, 2, 20, 160, 400)...))))
		ends(t, fmt.Sprint("refresh of ", n), s, at(refresh(30, 1, 52), 2), given, store(s, granted(state(1, 1), keys(newKeys(30, 1, 10, 160, 400)...))))
	}
}

// P5, rows "RqRefresh, 1" and "RqRefresh, 4": of a dead family it is asked whether the key was changed, else the next step asks.
func TestStepRefreshSorts(t *testing.T) {
	s := twoCached()
	r := refresh(30, 1, 52)
	killed := store(s, granted(dead(10)))
	changed := store(s, granted(state(1, 1)))
	both := store(s, granted(state(1, 1), dead(10, 20)))
	late := store(s, granted(atTime(141)))
	goes(t, "1, alive", s, at(r, 1), 2, s)
	goes(t, "1, changed", changed, at(r, 1), 2, changed)
	goes(t, "1, late", late, at(r, 1), 2, late)
	goes(t, "1, another one dead", store(s, granted(dead(20))), at(r, 1), 2, store(s, granted(dead(20))))
	goes(t, "1, dead", killed, at(r, 1), 4, killed)
	goes(t, "1, dead and changed", both, at(r, 1), 4, both)
	goes(t, "1, dead, locked by another", store(killed, locked(9), version(7)), at(r, 1), 4, store(killed, locked(9), version(7)))
	goes(t, "4, changed", both, at(r, 4), 5, both)
	goes(t, "4, changed, alive", changed, at(r, 4), 5, changed)
	endsWith(t, "4, dead", killed, at(r, 4), impl.ErrRange)
	endsWith(t, "4, alive", s, at(r, 4), impl.ErrRange)
	endsWith(t, "4, late", late, at(r, 4), impl.ErrRange)
	for _, pc := range []int64{1, 2, 4} {
		endsWith(t, fmt.Sprint(pc, ", not there"), s, at(refresh(30, 1, 54), pc), impl.ErrNone)
		endsWith(t, fmt.Sprint(pc, ", another client's"), s, at(refresh(30, 2, 52), pc), impl.ErrNone)
	}
}

// P5, row "RqRefresh, 2": the key was changed, is too late or dead, one of the keys is there, or all is given at once.
func TestStepRefresh(t *testing.T) {
	s := twoCached()
	r := refresh(30, 1, 52)
	gives := func(what string, s impl.Store, till, next int64) {
		t.Helper()
		then := store(s, granted(state(1, 1), keys(newKeys(30, 1, 10, till, next)...)))
		ends(t, what, s, at(r, 2), impl.Resp{Token: 301, Next: 302}, then)
	}
	gives("good", s, 160, 400)
	gives("good, while another one kills", store(s, version(7), locked(9)), 160, 400)
	gives("good, at the end", store(s, granted(atTime(140))), 200, 440)
	gives("another one dead", store(s, granted(dead(20))), 160, 400)
	endsWith(t, "one late", store(s, granted(atTime(141))), at(r, 2), impl.ErrRange)
	endsWith(t, "dead", store(s, granted(dead(10))), at(r, 2), impl.ErrRange)
	changed := store(s, granted(state(1, 1)))
	goes(t, "changed", changed, at(r, 2), 5, changed)
	worse := store(s, granted(state(1, 1), dead(10), atTime(141), keys(newKeys(30, 1, 10, 160, 400)...)))
	goes(t, "changed, dead, late and there", worse, at(r, 2), 5, worse)
	for _, no := range []int64{301, 302} {
		there := store(s, granted(keys(impl.Key{No: no, Client: 3, Fam: 20})))
		endsWith(t, fmt.Sprint("there meanwhile ", no), there, at(r, 2), impl.ErrThere)
		endsWith(t, fmt.Sprint("late, and there meanwhile ", no), store(there, granted(atTime(141))), at(r, 2), impl.ErrRange)
		endsWith(t, fmt.Sprint("dead, and there meanwhile ", no), store(there, granted(dead(10))), at(r, 2), impl.ErrRange)
	}
	late := store(s, granted(atTime(impl.MaxTime), func(g *impl.Grant) { g.Keys[1].Till = impl.MaxTime }))
	gives("good, at the end of time", late, impl.MaxTime, impl.MaxTime)
}

// P5: a refresh needs a key that is a refresh at each step, whatever has become of the key.
func TestStepRefreshOfKey(t *testing.T) {
	s := store(twoCached(), locked(30), version(7))
	for _, change := range []func(*impl.Grant){state(0, 0), state(0, 1), state(0, 2), dead(10), atTime(121), keys(newKeys(30, 1, 10, 160, 400)...)} {
		for _, worse := range []func(*impl.Grant){state(1, 0), state(1, 1), dead(10, 20)} {
			s := store(s, granted(change, worse))
			for _, pc := range []int64{1, 2, 4, 7} {
				endsWith(t, fmt.Sprint("a key, at ", pc), s, at(refresh(30, 1, 51), pc), impl.ErrNone)
				endsWith(t, fmt.Sprint("another key, at ", pc), s, at(refresh(30, 2, 71), pc), impl.ErrNone)
			}
		}
	}
}

// P5, row "RqRevoke, 0": it ends where there is no such key, whatever has become of one that there is.
func TestStepRevoke(t *testing.T) {
	s := twoCached()
	gone := store(s, granted(state(0, 2), state(1, 1), dead(10), atTime(500)), version(7), locked(9))
	for _, token := range []int64{51, 52, 53} {
		goes(t, fmt.Sprint("there ", token), s, at(revoke(30, 1, token), 0), 5, s)
		goes(t, fmt.Sprint("gone ", token), gone, at(revoke(30, 1, token), 0), 5, gone)
		endsWith(t, fmt.Sprint("another client's ", token), s, at(revoke(30, 2, token), 0), impl.OK)
	}
	endsWith(t, "not there", s, at(revoke(30, 1, 54), 0), impl.OK)
	endsWith(t, "not there, locked", gone, at(revoke(30, 1, 54), 0), impl.OK)
}

// P5, row "RqAsk, 0": the version is kept, and the cache is asked where it is even.
func TestStepAskVersion(t *testing.T) {
	for _, ver := range []int64{0, 1, 2, 6, 7, impl.MaxTime - 1, impl.MaxTime} {
		for _, r := range []impl.Req{ask(30, 1, 51), ask(30, 3, 999)} {
			s := store(twoCached(), version(ver))
			want := at(r, 1+ver%2, ofVersion(ver))
			steps(t, fmt.Sprint(r.Token, ", of ", ver), s, at(r, 0), impl.StepOut{Store: s, Thread: want, Moved: true})
			s.Lock = 9
			steps(t, fmt.Sprint(r.Token, ", locked, of ", ver), s, at(r, 0), impl.StepOut{Store: s, Thread: want, Moved: true})
		}
	}
}

// P5, row "RqAsk, 1": what the cache has of the thread's version and the client is told; else the key is asked.
func TestStepAskCache(t *testing.T) {
	s := twoCached()
	for _, c := range []struct {
		what          string
		client, token int64
		ver           int64
		now           int64
		found, yes    bool
	}{
		{"cached", 1, 51, 6, 100, true, true},
		{"cached, at its end", 1, 51, 6, 120, true, true},
		{"cached, one late", 1, 51, 6, 121, true, false},
		{"of an older version", 2, 71, 4, 130, true, true},
		{"of an older version, one late", 2, 71, 4, 131, true, false},
		{"of another version than the thread's", 1, 51, 4, 100, false, false},
		{"of another version, that of the store", 2, 71, 6, 100, false, false},
		{"another client's", 2, 51, 6, 100, false, false},
		{"another client's, of an older version", 1, 71, 4, 100, false, false},
		{"not cached", 1, 53, 6, 100, false, false},
		{"not there", 3, 999, 6, 100, false, false},
	} {
		for _, change := range []func(*impl.Store){version(6), version(7), locked(9), granted(dead(10, 20), state(0, 2)), granted(func(g *impl.Grant) { g.Keys = nil })} {
			s := store(s, granted(atTime(c.now)), change)
			th := at(ask(30, c.client, c.token), 1, ofVersion(c.ver))
			if c.found {
				ends(t, c.what, s, th, impl.Resp{Yes: c.yes}, s)
			} else {
				goes(t, c.what, s, th, 2, s)
			}
		}
	}
	none := store(s, cache())
	goes(t, "none cached", none, at(ask(30, 1, 51), 1, ofVersion(6)), 2, none)
	goes(t, "none cached, of version 0", none, at(ask(30, 1, 51), 1, ofVersion(0)), 2, none)
	odd := store(s, version(7), entry(0, func(e *impl.Entry) { e.Ver = 7 }))
	ends(t, "of an odd version", odd, at(ask(30, 1, 51), 1, ofVersion(7)), impl.Resp{Yes: true}, odd)
}

// P5, row "RqAsk, 2": of a key that may open the Till is kept, and its family is asked next.
func TestStepAskKey(t *testing.T) {
	s := twoCached()
	sees := func(what string, s impl.Store, r impl.Req, till int64) {
		t.Helper()
		steps(t, what, s, at(r, 2), impl.StepOut{Store: s, Thread: at(r, 3, ofTill(till)), Moved: true})
	}
	sees("a key", s, ask(30, 1, 51), 120)
	sees("a refresh", s, ask(30, 1, 52), 140)
	sees("another client's own", s, ask(30, 2, 71), 130)
	sees("at its end", store(s, granted(atTime(120))), ask(30, 1, 51), 120)
	sees("dead, which is asked next", store(s, granted(dead(10))), ask(30, 1, 51), 120)
	sees("while something is killed", store(s, version(7), locked(9)), ask(30, 1, 51), 120)
	endsWith(t, "one late", store(s, granted(atTime(121))), at(ask(30, 1, 51), 2), impl.OK)
	endsWith(t, "taken", store(s, granted(state(0, 2))), at(ask(30, 1, 51), 2), impl.OK)
	endsWith(t, "of state 1", store(s, granted(state(0, 1))), at(ask(30, 1, 51), 2), impl.OK)
	endsWith(t, "changed", store(s, granted(state(1, 1))), at(ask(30, 1, 52), 2), impl.OK)
	endsWith(t, "not there", s, at(ask(30, 1, 54), 2), impl.OK)
	endsWith(t, "another client's", s, at(ask(30, 2, 51), 2), impl.OK)
	least := store(impl.Store{}, granted(words(manyWords(1)...), keys(impl.Key{No: 7, Client: 1, Fam: 1})))
	sees("of Till 0", least, ask(30, 1, 7), 0)
	most := store(least, granted(atTime(impl.MaxTime), func(g *impl.Grant) { g.Keys[0].Till = impl.MaxTime }))
	sees("of Till MaxTime", most, ask(30, 1, 7), impl.MaxTime)
}

// P5, row "RqAsk, 3": of a dead family no, else yes; and what may be cached is put there first.
func TestStepAskDead(t *testing.T) {
	s := twoCached()
	yes := impl.Resp{Yes: true}
	for _, ver := range []int64{0, 1, 6, 7, impl.MaxTime - 1, impl.MaxTime} {
		even := ver%2 == 0
		// What the store's version is, and who has the lock, is not asked, nor what was asked by the step ahead.
		for _, change := range []func(*impl.Store){version(6), version(7), locked(9), granted(state(0, 2), state(1, 1)), granted(atTime(500))} {
			s := store(s, change)
			what := fmt.Sprint(", of ", ver, " on ", s.Ver)
			key := at(ask(30, 1, 51), 3, ofVersion(ver))
			if even {
				goes(t, "a key"+what, s, key, 4, s)
			} else {
				ends(t, "a key"+what, s, key, yes, s)
			}
			ends(t, "a refresh"+what, s, at(ask(30, 1, 52), 3, ofVersion(ver)), yes, s)
			killed := store(s, granted(dead(10)))
			endsWith(t, "a dead key"+what, killed, key, impl.OK)
			endsWith(t, "a dead refresh"+what, killed, at(ask(30, 1, 52), 3, ofVersion(ver)), impl.OK)
			endsWith(t, "not there"+what, s, at(ask(30, 1, 54), 3, ofVersion(ver)), impl.ErrNone)
			endsWith(t, "another client's"+what, s, at(ask(30, 2, 51), 3, ofVersion(ver)), impl.ErrNone)
		}
	}
	goes(t, "another one dead", store(s, granted(dead(20))), at(ask(30, 1, 51), 3, ofVersion(6)), 4, store(s, granted(dead(20))))
}

// P5, row "RqAsk, 4": the key comes into the cache, if the version is still the same; yes is told in any case.
func TestStepAskPut(t *testing.T) {
	s := twoCached()
	yes := impl.Resp{Yes: true}
	r := ask(30, 1, 53)
	for _, ver := range []int64{0, 6, 7, impl.MaxTime} {
		s := store(s, version(ver))
		e := impl.Entry{Token: 53, Client: 1, Till: 120, Ver: ver}
		th := at(r, 4, ofVersion(ver), ofTill(120))
		ends(t, fmt.Sprint("put, of ", ver), s, th, yes, store(s, cache(s.Cache[0], s.Cache[1], e)))
		ends(t, fmt.Sprint("put, locked, of ", ver), store(s, locked(9)), th, yes, store(s, locked(9), cache(s.Cache[0], s.Cache[1], e)))
		full := store(s, cache(manyEntries(impl.MaxCache)...))
		ends(t, fmt.Sprint("put, full, of ", ver), full, th, yes, store(full, cache(full.Cache[1], full.Cache[2], full.Cache[3], e)))
		for _, other := range []int64{0, 1, 5, 6, 7, 8, impl.MaxTime - 1, impl.MaxTime} {
			if other != ver {
				ends(t, fmt.Sprint("of ", other, " on ", ver), s, at(r, 4, ofVersion(other)), yes, s)
			}
		}
	}
	again := impl.Entry{Token: 51, Client: 2, Till: 9, Ver: 6}
	ends(t, "put anew", s, at(ask(30, 2, 51), 4, ofVersion(6), ofTill(9)), yes, store(s, cache(s.Cache[1], again)))
	gone := store(s, granted(func(g *impl.Grant) { g.Keys, g.Dead = nil, []int64{10} }))
	e := impl.Entry{Token: 999, Client: 3, Till: impl.MaxTime, Ver: 6}
	ends(t, "of a key that is not there", gone, at(ask(99, 3, 999), 4, ofVersion(6), ofTill(impl.MaxTime)), yes, store(gone, cache(gone.Cache[0], gone.Cache[1], e)))
}

// P5, row 5 of the killing ones: who finds it open has the lock; who does not does nothing.
func TestStepLock(t *testing.T) {
	for what, r := range killers() {
		for _, no := range []int64{1, 30, 99} {
			r.No = no
			for _, ver := range []int64{0, 6, 7, impl.MaxTime} {
				s := store(twoCached(), version(ver))
				goes(t, fmt.Sprint(what, " ", no, ", of ", ver), s, at(r, 5), 6, store(s, locked(no)))
				for _, lock := range []int64{1, 2, 30, 31, 99} {
					s := store(s, locked(lock))
					steps(t, fmt.Sprint(what, " ", no, ", locked by ", lock), s, at(r, 5), impl.StepOut{Store: s, Thread: at(r, 5)})
				}
			}
			goes(t, what+", of nothing", impl.Store{}, at(r, 5), 6, impl.Store{Lock: no})
		}
	}
}

// P5, rows 6 and 8 of the killing ones: the version is one more, as far as there is one.
func TestStepTurnsVersion(t *testing.T) {
	for what, r := range killers() {
		for _, pc := range []int64{6, 8} {
			for _, ver := range []int64{0, 1, 6, 7, impl.MaxTime - 2, impl.MaxTime - 1, impl.MaxTime} {
				for _, lock := range []int64{30, 0, 9} {
					s := store(twoCached(), version(ver), locked(lock))
					next := min(ver+1, impl.MaxTime)
					goes(t, fmt.Sprint(what, ", ", pc, " of ", ver, ", lock ", lock), s, at(r, pc), pc+1, store(s, version(next)))
				}
			}
			goes(t, fmt.Sprint(what, ", ", pc, " of nothing"), impl.Store{}, at(r, pc), pc+1, impl.Store{Ver: 1})
		}
	}
}

// P5, row 7 of the killing ones: the family of the word, or of the key, is one of the dead, or what is revoked is taken.
func TestStepKill(t *testing.T) {
	s := store(twoCached(), version(7), locked(30))
	for _, c := range []struct {
		what string
		r    impl.Req
		then impl.Store
	}{
		{"a word", redeem(30, 2, 20, "xyz"), store(s, granted(dead(20)))},
		{"a used word", redeem(30, 1, 10, "ab"), store(s, granted(dead(10)))},
		{"a refresh's family", refresh(30, 1, 52), store(s, granted(dead(10)))},
		{"revoked", revoke(30, 1, 51), store(s, granted(state(0, 2)))},
		{"revoked, all of them", revoke(30, 1, 52), store(s, granted(dead(10)))},
		{"revoked, of another", revoke(30, 2, 71), store(s, granted(state(3, 2)))},
		{"revoked, not there", revoke(30, 1, 54), s},
		{"revoked, another client's", revoke(30, 2, 51), s},
	} {
		goes(t, c.what, s, at(c.r, 7), 8, c.then)
		free := []func(*impl.Store){version(6), locked(0)}
		goes(t, c.what+", without the lock", store(s, free...), at(c.r, 7), 8, store(c.then, free...))
		goes(t, c.what+", again", c.then, at(c.r, 7), 8, c.then)
	}
	both := store(s, granted(dead(10, 20)))
	goes(t, "one more of the dead, behind", store(s, granted(dead(10))), at(redeem(30, 2, 20, "xyz"), 7), 8, both)
	goes(t, "one more of the dead, ahead", store(s, granted(dead(20))), at(refresh(30, 1, 52), 7), 8, both)
	for what, r := range map[string]impl.Req{
		"no such word": redeem(30, 2, 21, "xyz"), "another client's word": redeem(30, 1, 20, "xyz"),
		"another proof": redeem(30, 2, 20, "a"), "another proof of a used word": redeem(30, 1, 10, "ba"),
		"no such key": refresh(30, 1, 54), "another client's key": refresh(30, 2, 52), "a key that is no refresh": refresh(30, 2, 71),
	} {
		endsWith(t, what, s, at(r, 7), impl.ErrNone)
	}
}

// P5, row 9 of the killing ones: nobody has the lock then, and what was found out is told.
func TestStepUnlock(t *testing.T) {
	for what, r := range killers() {
		code := int64(impl.ErrState)
		if r.Kind == impl.RqRevoke {
			code = impl.OK
		}
		for _, lock := range []int64{30, 0, 9, 99} {
			for _, ver := range []int64{0, 7, 8, impl.MaxTime} {
				s := store(twoCached(), version(ver), locked(lock))
				ends(t, fmt.Sprint(what, ", lock ", lock, " of ", ver), s, at(r, 9), impl.Resp{Code: code}, store(s, locked(0)))
			}
		}
		ends(t, what+", of nothing", impl.Store{Lock: 30}, at(r, 9), impl.Resp{Code: code}, impl.Store{})
	}
}

// P5, "At all other Pcs": a step of no row ends with ErrNone, and leaves all as it is, the lock too.
func TestStepOfNoRow(t *testing.T) {
	for _, c := range []struct {
		r   impl.Req
		pcs []int64
	}{
		{redeem(30, 2, 20, "xyz"), []int64{2, 3, 4}},
		{refresh(30, 1, 52), []int64{3}},
		{revoke(30, 1, 51), []int64{1, 2, 3, 4}},
		{ask(30, 1, 51), []int64{5, 6, 7, 8, 9}},
	} {
		for _, pc := range c.pcs {
			for _, change := range []func(*impl.Store){version(6), version(7), locked(30), locked(9), granted(dead(10, 20), used(1), state(1, 1))} {
				endsWith(t, doing(at(c.r, pc)), store(twoCached(), change), at(c.r, pc), impl.ErrNone)
			}
		}
		for pc := int64(10); pc < 20; pc++ {
			steps(t, doing(at(c.r, pc)), twoCached(), at(c.r, pc), impl.StepOut{Code: impl.ErrForm})
		}
		steps(t, "far off", twoCached(), at(c.r, math.MinInt64), impl.StepOut{Code: impl.ErrForm})
	}
}
