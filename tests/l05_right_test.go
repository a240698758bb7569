package tests

import (
	"fmt"
	"math"
	"math/rand"
	"strconv"
	"testing"

	"loop.example/g00842/impl"
)

// sameStoreRight fails the test where s is not told to be right, or not, by all that ask.
func sameStoreRight(t *testing.T, what string, s impl.Store, want bool) {
	t.Helper()
	before := storeCopy(s)
	same(t, what, impl.StoreRight(s), want)
	e := impl.Entry{Token: 777, Client: 3, Till: 7, Ver: 8}
	put := impl.CachePut(s, e)
	if want {
		same(t, what+", put", impl.CacheFind(put, 777, 8), e)
		same(t, what+", put, right", impl.StoreRight(put), true)
	} else {
		sameStore(t, what+", put", put, s)
		same(t, what+", honest", impl.Honest(s), false)
		for _, e := range s.Cache {
			same(t, what+", found", impl.CacheFind(s, e.Token, e.Ver), impl.Entry{})
		}
	}
	sameStore(t, what+", what was handed in", s, before)
}

// P5: stores that are right.
func TestStoreRight(t *testing.T) {
	sameStoreRight(t, "none", impl.Store{}, true)
	sameStoreRight(t, "of empty lists", impl.Store{Grant: impl.Grant{Words: []impl.Word{}, Keys: []impl.Key{}, Dead: []int64{}}, Cache: []impl.Entry{}}, true)
	sameStoreRight(t, "two cached", twoCached(), true)
	sameStoreRight(t, "while something is killed", store(twoCached(), version(7), locked(5)), true)
	sameStoreRight(t, "locked, of an even version", store(twoCached(), locked(5)), true)
	sameStoreRight(t, "odd, and not locked", store(twoCached(), version(7)), true)
	sameStoreRight(t, "of keys that are not there", impl.Store{Cache: manyEntries(impl.MaxCache)}, true)
	sameStoreRight(t, "of falling tokens", store(twoCached(), cache(impl.Entry{Token: 71, Client: 2}, impl.Entry{Token: 51, Client: 1})), true)
	sameStoreRight(t, "of a later version", store(twoCached(), entry(0, func(e *impl.Entry) { e.Ver = 7 })), true)
	sameStoreRight(t, "one is alike but for the token", store(twoCached(), cache(impl.Entry{Token: 5, Client: 1}, impl.Entry{Token: 6, Client: 1})), true)
}

// P5: each number of a store at its least and greatest, and beyond.
func TestStoreNumbers(t *testing.T) {
	cases := []struct {
		what        string
		least, most int64
		set         func(s *impl.Store, n int64)
	}{
		{"Ver", 0, impl.MaxTime, func(s *impl.Store, n int64) { s.Ver = n }},
		{"Lock", 0, 99, func(s *impl.Store, n int64) { s.Lock = n }},
		{"Now", 0, impl.MaxTime, func(s *impl.Store, n int64) { s.Grant.Now = n }},
		{"Token", 1, 999, func(s *impl.Store, n int64) { s.Cache[0].Token = n }},
		{"Token of the last one", 1, 999, func(s *impl.Store, n int64) { s.Cache[1].Token = n }},
		{"Client", 1, 3, func(s *impl.Store, n int64) { s.Cache[0].Client = n }},
		{"Client of the last one", 1, 3, func(s *impl.Store, n int64) { s.Cache[1].Client = n }},
		{"Till", 0, impl.MaxTime, func(s *impl.Store, n int64) { s.Cache[0].Till = n }},
		{"Till of the last one", 0, impl.MaxTime, func(s *impl.Store, n int64) { s.Cache[1].Till = n }},
		{"Ver of an entry", 0, impl.MaxTime, func(s *impl.Store, n int64) { s.Cache[0].Ver = n }},
		{"Ver of the last entry", 0, impl.MaxTime, func(s *impl.Store, n int64) { s.Cache[1].Ver = n }},
	}
	for _, c := range cases {
		set := func(n int64) impl.Store { return store(twoCached(), func(s *impl.Store) { c.set(s, n) }) }
		for _, n := range []int64{c.least, c.most} {
			sameStoreRight(t, c.what+" "+strconv.FormatInt(n, 10), set(n), true)
		}
		for _, n := range []int64{c.least - 1, c.most + 1, -c.most, c.most + 1<<32, 1 << 53, 1<<53 + 1, math.MaxInt64, math.MinInt64} {
			sameStoreRight(t, c.what+" "+strconv.FormatInt(n, 10), set(n), false)
		}
	}
}

// P5: caches at their greatest length, and one more; fields are not refused by their size.
func TestStoreLengths(t *testing.T) {
	full := impl.Grant{Words: manyWords(impl.MaxCodes), Keys: manyKeys(impl.MaxKeys)}
	sameStoreRight(t, "all full", impl.Store{Grant: full, Cache: manyEntries(impl.MaxCache)}, true)
	sameStoreRight(t, "one entry more", impl.Store{Grant: full, Cache: manyEntries(impl.MaxCache + 1)}, false)
	sameStoreRight(t, "too long", impl.Store{Cache: manyEntries(impl.MaxList + 1)}, false)
	sameStoreRight(t, "one key more", impl.Store{Grant: with(full, func(g *impl.Grant) { g.Keys = manyKeys(impl.MaxKeys + 1) })}, false)
	sameStoreRight(t, "too many words", impl.Store{Grant: impl.Grant{Words: make([]impl.Word, impl.MaxList+1)}, Cache: manyEntries(1)}, false)
}

// P5: two entries of one token, at each two places.
func TestStoreTokensTwice(t *testing.T) {
	for n := 2; n <= impl.MaxCache; n++ {
		for j := range n {
			for i := range j {
				l := manyEntries(n)
				l[j].Token = l[i].Token
				sameStoreRight(t, fmt.Sprintf("%d as %d of %d", j, i, n), impl.Store{Cache: l}, false)
				l[j] = l[i]
				sameStoreRight(t, fmt.Sprintf("%d just as %d of %d", j, i, n), impl.Store{Cache: l}, false)
			}
		}
	}
}

// P5: a store is not right, if its grant is not, in each of its parts.
func TestStoreWrongGrants(t *testing.T) {
	for what, change := range map[string]func(*impl.Grant){
		"Now":              atTime(-1),
		"words turned":     func(g *impl.Grant) { g.Words[0], g.Words[1] = g.Words[1], g.Words[0] },
		"a shade":          func(g *impl.Grant) { g.Words[0].Shade = "B" },
		"keys turned":      func(g *impl.Grant) { g.Keys[0], g.Keys[1] = g.Keys[1], g.Keys[0] },
		"a key twice":      keys(impl.Key{No: 51, Client: 1, Fam: 10, Till: 120}),
		"a key of no word": func(g *impl.Grant) { g.Keys[3].Fam = 11 },
		"a State":          state(1, 2),
		"Dead":             dead(11),
		"Dead turned":      dead(20, 10),
	} {
		s := store(twoCached(), granted(change))
		sameStoreRight(t, what, s, false)
		sameStoreRight(t, what+", nothing beside", impl.Store{Grant: s.Grant}, false)
		sameStore(t, what+", new", impl.StoreNew(s.Grant), impl.Store{})
	}
}

// P5: a new store is that of the grant, with nothing beside, and right.
func TestStoreNew(t *testing.T) {
	for what, g := range map[string]impl.Grant{
		"none":      {},
		"two words": twoWords(),
		"at an end": with(twoWords(), atTime(impl.MaxTime), used(1), dead(10, 20), state(0, 2), state(1, 1)),
		"one dead":  with(twoWords(), dead(20)),
		"at 0":      with(twoWords(), atTime(0), dead(10)),
		"full":      {Words: manyWords(impl.MaxCodes), Keys: manyKeys(impl.MaxKeys)},
	} {
		s := impl.StoreNew(g)
		sameStore(t, what, s, impl.Store{Grant: g})
		same(t, what+", right", impl.StoreRight(s), true)
		same(t, what+", honest", impl.Honest(s), true)
		same(t, what+", found", impl.CacheFind(s, 51, 0), impl.Entry{})
	}
	sameStore(t, "at no time", impl.StoreNew(impl.Grant{Now: -1}), impl.Store{})
	sameStore(t, "too late", impl.StoreNew(impl.Grant{Now: impl.MaxTime + 1}), impl.Store{})
	sameStore(t, "a zero word", impl.StoreNew(impl.Grant{Words: make([]impl.Word, 1)}), impl.Store{})
	sameStore(t, "too many words", impl.StoreNew(impl.Grant{Words: manyWords(impl.MaxCodes + 1)}), impl.Store{})
}

// P5: a store with one number turned is right or not as another one tells it, and what is not right is refused.
func TestStoresTurned(t *testing.T) {
	random := rand.New(rand.NewSource(15))
	right := 0
	for range 20000 {
		s := anyStore(random)
		turnStore(random, &s)
		want := storeRightSlowly(s)
		if got := impl.StoreRight(s); got != want {
			t.Fatalf("got %t of %+v", got, s)
		}
		if want {
			right++
			continue
		}
		sameStoreRight(t, fmt.Sprintf("%+v", s), s, false)
	}
	same(t, "both come", right > 1000 && right < 19000, true)
}

// turnStore sets one number of s.
func turnStore(random *rand.Rand, s *impl.Store) {
	n := []int64{-1, 0, 1, 2, 3, 4, 99, 100, 999, 1000, impl.MaxTime, impl.MaxTime + 1}[random.Intn(12)]
	all := []*int64{&s.Ver, &s.Lock}
	for i := range s.Cache {
		e := &s.Cache[i]
		all = append(all, &e.Token, &e.Client, &e.Till, &e.Ver)
	}
	if at := random.Intn(len(all) + 1); at < len(all) {
		*all[at] = n
		return
	}
	turnOne(random, &s.Grant, n)
}
