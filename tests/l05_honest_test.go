package tests

import (
	"fmt"
	"math"
	"math/rand"
	"testing"

	"loop.example/g00842/impl"
)

// isHonest fails the test where s is not told to be honest, or not, or is changed by that.
func isHonest(t *testing.T, what string, s impl.Store, want bool) {
	t.Helper()
	before := storeCopy(s)
	same(t, what+", right", impl.StoreRight(s), true)
	same(t, what, impl.Honest(s), want)
	sameStore(t, what+", what was handed in", s, before)
}

// P5: stores that are honest.
func TestHonest(t *testing.T) {
	isHonest(t, "none", impl.Store{}, true)
	isHonest(t, "two cached", twoCached(), true)
	isHonest(t, "of an empty cache", store(twoCached(), cache()), true)
	isHonest(t, "locked", store(twoCached(), locked(99)), true)
	isHonest(t, "of version 0", store(twoCached(), version(0), entry(0, func(e *impl.Entry) { e.Ver = 0 })), true)
	isHonest(t, "of the last version", store(twoCached(), version(impl.MaxTime), entry(0, func(e *impl.Entry) { e.Ver = impl.MaxTime })), true)
	isHonest(t, "both of this version", store(twoCached(), entry(1, func(e *impl.Entry) { e.Ver = 6 })), true)
	isHonest(t, "another one's word is dead", store(twoCached(), granted(dead(20))), true)
	isHonest(t, "another key was taken", store(twoCached(), granted(state(1, 1), state(2, 2), state(3, 2))), true)
	// Till is looked at by who asks: of a key whose time is over the cache may still tell.
	isHonest(t, "its time is over", store(twoCached(), granted(atTime(121))), true)
	isHonest(t, "its time is long over", store(twoCached(), granted(atTime(impl.MaxTime))), true)
	isHonest(t, "at 0", store(twoCached(), granted(atTime(0))), true)
	isHonest(t, "its word is not used", store(twoCached(), granted(func(g *impl.Grant) { g.Words[0].Used = false })), true)
}

// wrongNames is stores whose first cached key is not as the cache has it, each for one reason.
func wrongNames() map[string]impl.Store {
	first := func(change func(*impl.Entry)) impl.Store { return store(twoCached(), entry(0, change)) }
	return map[string]impl.Store{
		"a refresh":                first(func(e *impl.Entry) { e.Token, e.Till = 52, 140 }),
		"that is a refresh now":    store(twoCached(), granted(func(g *impl.Grant) { g.Keys[0].Refresh = true })),
		"of another client":        first(func(e *impl.Entry) { e.Client = 2 }),
		"of a later till":          first(func(e *impl.Entry) { e.Till = 121 }),
		"of an earlier till":       first(func(e *impl.Entry) { e.Till = 119 }),
		"of till 0":                first(func(e *impl.Entry) { e.Till = 0 }),
		"of the greatest till":     first(func(e *impl.Entry) { e.Till = impl.MaxTime }),
		"of state 1":               store(twoCached(), granted(state(0, 1))),
		"of state 2":               store(twoCached(), granted(state(0, 2))),
		"of a dead word":           store(twoCached(), granted(dead(10))),
		"of one of two dead":       store(twoCached(), granted(dead(10, 20))),
		"dead at 0":                store(twoCached(), granted(dead(10), atTime(0))),
		"dead at the end":          store(twoCached(), granted(dead(10), atTime(impl.MaxTime))),
		"that is not there":        first(func(e *impl.Entry) { e.Token = 50 }),
		"that is not there, ahead": first(func(e *impl.Entry) { e.Token = 1 }),
		"that is not there, last":  first(func(e *impl.Entry) { e.Token = 999 }),
		"of no grant":              store(twoCached(), func(s *impl.Store) { s.Grant = impl.Grant{} }),
	}
}

// P5: stores that are not, and that nothing is asked of an odd version, nor of what is of another one than this.
func TestNotHonest(t *testing.T) {
	for what, s := range wrongNames() {
		isHonest(t, what, s, false)
		isHonest(t, what+", locked", store(s, locked(1)), false)
		behind := store(s, func(s *impl.Store) { s.Cache[0], s.Cache[1] = s.Cache[1], s.Cache[0] })
		isHonest(t, what+", behind another", behind, false)
		other := impl.Entry{Token: 53, Client: 1, Till: 120, Ver: 6}
		isHonest(t, what+", ahead of a good one", store(s, cache(s.Cache[0], other)), false)
		isHonest(t, what+", behind a good one", store(s, cache(other, s.Cache[0])), false)
		for _, ver := range []int64{0, 4, 8, impl.MaxTime} {
			older := store(s, entry(0, func(e *impl.Entry) { e.Ver = ver }))
			isHonest(t, fmt.Sprint(what, ", of another version than ", ver), older, true)
			isHonest(t, fmt.Sprint(what, ", both of ", ver), store(older, version(ver)), false)
		}
		for _, ver := range []int64{1, 5, 7, impl.MaxTime - 1} {
			odd := store(s, version(ver), entry(0, func(e *impl.Entry) { e.Ver = ver }))
			isHonest(t, fmt.Sprint(what, ", of the odd version ", ver), odd, true)
			isHonest(t, fmt.Sprint(what, ", not of the odd version ", ver), store(s, version(ver)), true)
		}
	}
}

// P5: each place of a full cache is looked at.
func TestHonestPlaces(t *testing.T) {
	s := impl.Store{Grant: impl.Grant{Words: manyWords(impl.MaxCodes)}, Ver: 6, Cache: manyEntries(impl.MaxCache)}
	for i, e := range s.Cache {
		s.Grant.Keys = append(s.Grant.Keys, impl.Key{No: e.Token, Client: 1, Fam: int64(3*i + 2), Till: e.Till})
	}
	isHonest(t, "all", s, true)
	for i := range s.Cache {
		isHonest(t, fmt.Sprintf("client %d", i), store(s, entry(i, func(e *impl.Entry) { e.Client = 3 })), false)
		isHonest(t, fmt.Sprintf("state %d", i), store(s, granted(state(i, 2))), false)
		isHonest(t, fmt.Sprintf("dead %d", i), store(s, granted(dead(int64(3*i+2)))), false)
		isHonest(t, fmt.Sprintf("refresh %d", i), store(s, granted(func(g *impl.Grant) { g.Keys[i].Refresh = true })), false)
		isHonest(t, fmt.Sprintf("older %d", i), store(s, entry(i, func(e *impl.Entry) { e.Client, e.Ver = 3, 4 })), true)
	}
	isHonest(t, "the others dead", store(s, granted(dead(1, 3, 4, 6, 7, 9, 10, 12))), true)
}

// P5: what is not right is not honest.
func TestHonestWrong(t *testing.T) {
	for what, s := range wrongStores() {
		same(t, what, impl.Honest(s), false)
		s.Ver |= 1
		same(t, what+", odd", impl.Honest(s), false)
	}
	same(t, "far off", impl.Honest(impl.Store{Ver: math.MinInt64}), false)
	same(t, "odd and below 0", impl.Honest(impl.Store{Ver: -1}), false)
	same(t, "odd and too great", impl.Honest(impl.Store{Ver: impl.MaxTime + 1}), false)
}

// P5: over stores of all kinds it is as another one tells it; and what an honest cache has of this version opens, till its time.
func TestHonestAtRandom(t *testing.T) {
	random := rand.New(rand.NewSource(18))
	honest, opened := 0, 0
	for range 20000 {
		s := anyStore(random)
		got := impl.Honest(s)
		if got != honestSlowly(s) {
			t.Fatalf("got %t of %+v", got, s)
		}
		if !got || s.Ver%2 == 1 {
			continue
		}
		honest++
		for _, e := range s.Cache {
			if e.Ver == s.Ver && s.Grant.Now <= e.Till {
				opened++
				same(t, fmt.Sprintf("%+v opens", e), impl.Opens(s.Grant, e.Token, e.Client), true)
			}
		}
	}
	same(t, "both come", honest > 1000 && honest < 19000, true)
	same(t, "some open", opened > 100, true)
}

// P5: a key that is given, and put into the cache as it is, is told so honestly, until it is taken, or its word was stolen.
func TestHonestStory(t *testing.T) {
	given := impl.GrantAll(impl.Grant{}, []impl.Req{issue(1, 1, "ba"), redeem(2, 1, 1, "ab")}).Grant
	e := impl.Entry{Token: 21, Client: 1, Till: impl.LifeKey}
	s := impl.CachePut(impl.StoreNew(given), e)
	isHonest(t, "given", s, true)
	for _, c := range []struct {
		what string
		r    impl.Req
		want bool
	}{
		{"asked", ask(3, 1, 21), true},
		{"long after", tick(3, 1000), true},
		{"the next ones", refresh(3, 1, 22), true},
		{"another one's taken", revoke(3, 2, 21), true},
		{"taken", revoke(3, 1, 21), false},
		{"all taken", revoke(3, 1, 22), false},
		{"stolen", redeem(3, 1, 1, "ab"), false},
	} {
		g := impl.GrantDo(given, c.r).Grant
		isHonest(t, c.what, store(s, func(s *impl.Store) { s.Grant = g }), c.want)
		isHonest(t, c.what+", of a version behind", store(s, version(2), func(s *impl.Store) { s.Grant = g }), true)
	}
}

func FuzzStores(f *testing.F) {
	f.Add(int64(1), int64(3))
	f.Add(int64(7), int64(-1))
	f.Fuzz(func(t *testing.T, seed, n int64) {
		random := rand.New(rand.NewSource(seed))
		s := anyStore(random)
		e := anyEntry(random, s.Grant)
		s.Lock, e.Ver = n, n
		same(t, "right", impl.StoreRight(s), storeRightSlowly(s))
		same(t, "honest", impl.Honest(s), honestSlowly(s))
		puts(t, "put", s, e, putSlowly(s, e))
		same(t, "found", impl.CacheFind(s, e.Token, n), findSlowly(s, e.Token, n))
	})
}
