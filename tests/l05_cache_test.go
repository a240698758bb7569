package tests

import (
	"fmt"
	"math"
	"math/rand"
	"slices"
	"testing"

	"loop.example/g00842/impl"
)

// puts fails the test where of e, put into s, not that store comes, or where s is changed by that.
func puts(t *testing.T, what string, s impl.Store, e impl.Entry, want impl.Store) {
	t.Helper()
	before := storeCopy(s)
	sameStore(t, what, impl.CachePut(s, e), want)
	sameStore(t, what+", what was handed in", s, before)
}

// P5: what is put into the cache is behind the others, and found.
func TestCachePut(t *testing.T) {
	s := twoCached()
	first, second := s.Cache[0], s.Cache[1]
	e := impl.Entry{Token: 60, Client: 3, Till: 9, Ver: 2}
	puts(t, "the first one", store(s, cache()), e, store(s, cache(e)))
	puts(t, "behind the others", s, e, store(s, cache(first, second, e)))
	puts(t, "while something is killed", store(s, version(7), locked(99)), e, store(s, version(7), locked(99), cache(first, second, e)))
	puts(t, "at an end", store(s, version(impl.MaxTime), locked(1), granted(atTime(impl.MaxTime), dead(10, 20))), e,
		store(s, version(impl.MaxTime), locked(1), granted(atTime(impl.MaxTime), dead(10, 20)), cache(first, second, e)))
	puts(t, "of no grant", impl.Store{}, e, impl.Store{Cache: []impl.Entry{e}})
	puts(t, "of a key that is not there", s, impl.Entry{Token: 999, Client: 1}, store(s, cache(first, second, impl.Entry{Token: 999, Client: 1})))
	puts(t, "at the least", s, impl.Entry{Token: 1, Client: 1}, store(s, cache(first, second, impl.Entry{Token: 1, Client: 1})))
	most := impl.Entry{Token: 999, Client: 3, Till: impl.MaxTime, Ver: impl.MaxTime}
	puts(t, "at the most", s, most, store(s, cache(first, second, most)))
}

// P5: one that is put anew is there once, behind the others, as it is now.
func TestCachePutAnew(t *testing.T) {
	s := store(twoCached(), cache(manyEntries(impl.MaxCache)...))
	l := s.Cache
	again := func(at int) impl.Entry { return impl.Entry{Token: l[at].Token, Client: 2, Till: 77, Ver: 5} }
	puts(t, "the first one", s, again(0), store(s, cache(l[1], l[2], l[3], again(0))))
	puts(t, "one amid the others", s, again(1), store(s, cache(l[0], l[2], l[3], again(1))))
	puts(t, "another one", s, again(2), store(s, cache(l[0], l[1], l[3], again(2))))
	puts(t, "the last one", s, again(3), store(s, cache(l[0], l[1], l[2], again(3))))
	puts(t, "just as it was", s, l[1], store(s, cache(l[0], l[2], l[3], l[1])))
	puts(t, "the only one", store(s, cache(l[0])), again(0), store(s, cache(again(0))))
	puts(t, "with room", store(s, cache(l[0], l[1])), again(0), store(s, cache(l[1], again(0))))
}

// P5: of more than MaxCache entries the first one goes.
func TestCachePutFull(t *testing.T) {
	l := manyEntries(3 * impl.MaxCache)
	s := store(twoCached(), cache())
	for i, e := range l {
		s = impl.CachePut(s, e)
		sameStore(t, fmt.Sprintf("%d put", i+1), s, store(twoCached(), cache(l[max(0, i+1-impl.MaxCache):i+1]...)))
	}
	for i, e := range l {
		want := e
		if i < len(l)-impl.MaxCache {
			want = impl.Entry{}
		}
		same(t, fmt.Sprintf("entry %d", i), impl.CacheFind(s, e.Token, e.Ver), want)
	}
}

// P5: an entry that might not stand there leaves the store as it is.
func TestCachePutWrong(t *testing.T) {
	right := impl.Entry{Token: 60, Client: 3, Till: 9, Ver: 2}
	cases := map[string]func(e *impl.Entry, n int64){
		"Token":  func(e *impl.Entry, n int64) { e.Token = n },
		"Client": func(e *impl.Entry, n int64) { e.Client = n },
		"Till":   func(e *impl.Entry, n int64) { e.Till = n },
		"Ver":    func(e *impl.Entry, n int64) { e.Ver = n },
	}
	wrong := map[string][]int64{"Token": {0, -1, 1000, 1000000}, "Client": {0, -1, 4, 999}, "Till": {-1, impl.MaxTime + 1}, "Ver": {-1, impl.MaxTime + 1}}
	full := store(twoCached(), cache(manyEntries(impl.MaxCache)...))
	for what, set := range cases {
		for _, n := range append(wrong[what], math.MinInt64, math.MaxInt64) {
			e := right
			set(&e, n)
			puts(t, fmt.Sprint(what, " ", n), twoCached(), e, twoCached())
			puts(t, fmt.Sprint(what, " ", n, ", full"), full, e, full)
			// One of a token that is there does not even go.
			e = twoCached().Cache[0]
			set(&e, n)
			puts(t, fmt.Sprint(what, " ", n, ", there"), twoCached(), e, twoCached())
		}
	}
	puts(t, "the zero one", twoCached(), impl.Entry{}, twoCached())
}

// P5: a store that is not right is left as it is, whatever is put into it.
func TestCachePutIntoWrong(t *testing.T) {
	e := impl.Entry{Token: 60, Client: 3, Till: 9, Ver: 2}
	for what, s := range wrongStores() {
		puts(t, what, s, e, s)
		puts(t, what+", the zero one", s, impl.Entry{}, s)
		puts(t, what+", of a token that is there", s, twoCached().Cache[0], s)
	}
}

// wrongStores is stores that are not right, all for one reason each.
func wrongStores() map[string]impl.Store {
	return map[string]impl.Store{
		"Now":                  store(twoCached(), granted(atTime(-1))),
		"Ver":                  store(twoCached(), version(-1)),
		"Ver, too great":       store(twoCached(), version(impl.MaxTime+1)),
		"Lock":                 store(twoCached(), locked(-1)),
		"Lock, too great":      store(twoCached(), locked(100)),
		"an entry":             store(twoCached(), entry(1, func(e *impl.Entry) { e.Client = 0 })),
		"two of one token":     store(twoCached(), entry(1, func(e *impl.Entry) { e.Token = 51 })),
		"too many":             store(twoCached(), cache(manyEntries(impl.MaxCache+1)...)),
		"far too many":         store(twoCached(), cache(manyEntries(2*impl.MaxList)...)),
		"words that fall":      store(twoCached(), granted(func(g *impl.Grant) { slices.Reverse(g.Words) })),
		"keys that fall":       store(twoCached(), granted(func(g *impl.Grant) { slices.Reverse(g.Keys) })),
		"dead that fall":       store(twoCached(), granted(dead(20, 10))),
		"a key that is twice":  store(twoCached(), granted(keys(impl.Key{No: 51, Client: 1, Fam: 10, Till: 120}))),
		"a shade of no letter": store(twoCached(), granted(func(g *impl.Grant) { g.Words[1].Shade = "\x00é" })),
	}
}

// P5: what was put into the cache is found, of its version alone.
func TestCacheFind(t *testing.T) {
	s := twoCached()
	first, second := s.Cache[0], s.Cache[1]
	cases := []struct {
		what       string
		token, ver int64
		want       impl.Entry
	}{
		{"of this version", 51, 6, first},
		{"of an older one", 71, 4, second},
		{"of the version of another", 51, 4, impl.Entry{}},
		{"of this version alone", 71, 6, impl.Entry{}},
		{"of the version ahead", 51, 5, impl.Entry{}},
		{"of the version behind", 51, 7, impl.Entry{}},
		{"of version 0", 51, 0, impl.Entry{}},
		{"of a key that is not cached", 52, 6, impl.Entry{}},
		{"of a key that is not there", 999, 6, impl.Entry{}},
		{"of token 0", 0, 0, impl.Entry{}},
		{"of token 0 and this version", 0, 6, impl.Entry{}},
		{"of a token below", -51, 6, impl.Entry{}},
		{"of no token", 1000, 6, impl.Entry{}},
		{"far off", math.MinInt64, math.MaxInt64, impl.Entry{}},
		{"of a version below", 51, -6, impl.Entry{}},
		{"of a version that wraps", 51, 6 + 1<<32, impl.Entry{}},
	}
	for _, c := range cases {
		same(t, c.what, impl.CacheFind(s, c.token, c.ver), c.want)
		same(t, c.what+", of another version of the store", impl.CacheFind(store(s, version(9), locked(3)), c.token, c.ver), c.want)
	}
	sameStore(t, "what was handed in", s, twoCached())
	for what, s := range wrongStores() {
		for _, e := range s.Cache {
			same(t, what, impl.CacheFind(s, e.Token, e.Ver), impl.Entry{})
		}
	}
	for _, e := range manyEntries(impl.MaxCache) {
		same(t, "each of a full one", impl.CacheFind(store(s, cache(manyEntries(impl.MaxCache)...)), e.Token, e.Ver), e)
	}
	last := impl.Entry{Token: 999, Client: 3, Till: impl.MaxTime, Ver: impl.MaxTime}
	same(t, "at the end", impl.CacheFind(impl.CachePut(s, last), 999, impl.MaxTime), last)
	none := impl.Entry{Token: 1, Client: 1}
	same(t, "of version 0, put", impl.CacheFind(impl.CachePut(s, none), 1, 0), none)
}

// P5: over stores and entries of all kinds, what comes of a put is as another one tells it, and what was put is found, of its version alone.
func TestCachesAtRandom(t *testing.T) {
	random := rand.New(rand.NewSource(16))
	for range 200 {
		s := anyStore(random)
		for range 8 {
			e := anyEntry(random, s.Grant)
			if random.Intn(8) == 0 {
				e.Client, e.Till = int64(random.Intn(5)), e.Till-1
			}
			want := putSlowly(s, e)
			puts(t, fmt.Sprintf("%+v", e), s, e, want)
			for ver := int64(-1); ver <= 5; ver++ {
				for _, token := range []int64{e.Token, e.Token + 1, 0} {
					same(t, "found", impl.CacheFind(want, token, ver), findSlowly(want, token, ver))
				}
				if entryRightSlowly(e) {
					same(t, "found of its version alone", impl.CacheFind(want, e.Token, ver) == e, ver == e.Ver)
				}
			}
			if t.Failed() {
				t.Fatalf("from %+v", s)
			}
			s = want
		}
	}
}

// P5: an answer is new memory, and what is handed in is not changed, nor anything behind it.
func TestStoresAreNew(t *testing.T) {
	random := rand.New(rand.NewSource(17))
	for range 500 {
		s := withRoom(anyStore(random))
		wrong := withRoom(s)
		wrong.Lock = -1
		before, wrongBefore := whole(s), whole(wrong)
		e := anyEntry(random, s.Grant)
		outs := []impl.Store{impl.StoreNew(s.Grant), impl.CachePut(s, e), impl.CachePut(s, impl.Entry{}), impl.CachePut(wrong, e), impl.CachePut(wrong, impl.Entry{})}
		var kept []impl.Store
		for _, out := range outs {
			kept = append(kept, storeCopy(out))
		}
		for i, out := range outs {
			sameStore(t, "answers that share", out, kept[i])
			spoil(out)
		}
		impl.CacheFind(s, e.Token, e.Ver)
		impl.Honest(s)
		same(t, "what was handed in", whole(s), before)
		same(t, "what was handed in, not right", whole(wrong), wrongBefore)
	}
	shade := string([]byte("abcdefgh"))
	g := impl.Grant{Words: []impl.Word{{No: 1, Client: 1, Shade: shade}}}
	same(t, "a shade", shares(impl.StoreNew(g).Grant.Words[0].Shade, shade), false)
	same(t, "a shade, put", shares(impl.CachePut(impl.Store{Grant: g}, impl.Entry{Token: 1, Client: 1}).Grant.Words[0].Shade, shade), false)
	same(t, "a shade, as it is", shares(impl.CachePut(impl.Store{Grant: g}, impl.Entry{}).Grant.Words[0].Shade, shade), false)
	same(t, "a shade, not right", shares(impl.CachePut(impl.Store{Grant: g, Lock: -1}, impl.Entry{}).Grant.Words[0].Shade, shade), false)
}

// P5: the same is told to many who ask of one store at the same time.
func TestStoresAtOnce(t *testing.T) {
	s := twoCached()
	e := impl.Entry{Token: 53, Client: 1, Till: 120, Ver: 6}
	want := store(s, cache(s.Cache[0], s.Cache[1], e))
	for i := range 20 {
		t.Run(fmt.Sprintf("reader %d", i), func(t *testing.T) {
			t.Parallel()
			for range 20 {
				sameStore(t, "put", impl.CachePut(s, e), want)
				sameStore(t, "new", impl.StoreNew(s.Grant), impl.Store{Grant: s.Grant})
				same(t, "found", impl.CacheFind(s, 51, 6), s.Cache[0])
				same(t, "honest", impl.Honest(s), true)
			}
		})
	}
}
