package tests

import (
	"fmt"
	"math/rand"
	"slices"
	"testing"

	"loop.example/g00842/impl"
)

// sameStores tells whether two stores are alike; an empty list and none are the same.
func sameStores(a, b impl.Store) bool {
	return sameGrant(a.Grant, b.Grant) && a.Ver == b.Ver && a.Lock == b.Lock && slices.Equal(a.Cache, b.Cache)
}

// sameStore fails the test where got is not want.
func sameStore(t *testing.T, what string, got, want impl.Store) {
	t.Helper()
	if !sameStores(got, want) {
		t.Errorf("%s:\n got %+v\nwant %+v", what, got, want)
	}
}

// storeCopy is s in memory of its own.
func storeCopy(s impl.Store) impl.Store {
	return impl.Store{Grant: copyOf(s.Grant), Ver: s.Ver, Lock: s.Lock, Cache: slices.Clone(s.Cache)}
}

// store is a copy of s that is changed by all of these.
func store(s impl.Store, changes ...func(*impl.Store)) impl.Store {
	s = storeCopy(s)
	for _, change := range changes {
		change(&s)
	}
	return s
}

// version sets Ver.
func version(ver int64) func(*impl.Store) { return func(s *impl.Store) { s.Ver = ver } }

// locked sets Lock.
func locked(lock int64) func(*impl.Store) { return func(s *impl.Store) { s.Lock = lock } }

// cache sets Cache.
func cache(l ...impl.Entry) func(*impl.Store) { return func(s *impl.Store) { s.Cache = l } }

// entry changes the entry at that place.
func entry(at int, change func(*impl.Entry)) func(*impl.Store) {
	return func(s *impl.Store) { change(&s.Cache[at]) }
}

// granted changes Grant.
func granted(changes ...func(*impl.Grant)) func(*impl.Store) {
	return func(s *impl.Store) { s.Grant = with(s.Grant, changes...) }
}

// twoCached is a store of version 6 of twoWords and two keys more (71 of client 2 and the word 20, and 53 of the word 10),
// with two of its keys in the cache: 51 of that version, and 71 of an older one.
func twoCached() impl.Store {
	return impl.Store{
		Grant: with(twoWords(), keys(impl.Key{No: 53, Client: 1, Fam: 10, Till: 120}, impl.Key{No: 71, Client: 2, Fam: 20, Till: 130})),
		Ver:   6,
		Cache: []impl.Entry{{Token: 51, Client: 1, Till: 120, Ver: 6}, {Token: 71, Client: 2, Till: 130, Ver: 4}},
	}
}

// manyEntries is n entries of client 1 and version 6, of the Tokens from 201 on.
func manyEntries(n int) []impl.Entry {
	var out []impl.Entry
	for i := range n {
		out = append(out, impl.Entry{Token: int64(i + 201), Client: 1, Till: int64(10 * i), Ver: 6})
	}
	return out
}

// storeRightSlowly is what StoreRight has to tell, told in another way.
func storeRightSlowly(s impl.Store) bool {
	ok := rightSlowly(s.Grant) && 0 <= s.Ver && s.Ver <= 1000000 && 0 <= s.Lock && s.Lock <= 99 && len(s.Cache) <= 4
	tokens := map[int64]bool{}
	for _, e := range s.Cache {
		ok = ok && entryRightSlowly(e)
		tokens[e.Token] = true
	}
	return ok && len(tokens) == len(s.Cache)
}

// entryRightSlowly tells whether e might stand in a cache.
func entryRightSlowly(e impl.Entry) bool {
	return 0 < e.Token && e.Token < 1000 && 0 < e.Client && e.Client < 4 && 0 <= e.Till && e.Till <= 1000000 && 0 <= e.Ver && e.Ver <= 1000000
}

// findSlowly is what CacheFind has to tell, told in another way.
func findSlowly(s impl.Store, token, ver int64) impl.Entry {
	for _, e := range s.Cache {
		if storeRightSlowly(s) && e.Token == token && e.Ver == ver {
			return e
		}
	}
	return impl.Entry{}
}

// putSlowly is what CachePut has to tell, told in another way.
func putSlowly(s impl.Store, e impl.Entry) impl.Store {
	if !storeRightSlowly(s) || !entryRightSlowly(e) {
		return s
	}
	var l []impl.Entry
	for _, old := range s.Cache {
		if old.Token != e.Token {
			l = append(l, old)
		}
	}
	l = append(l, e)
	return store(s, cache(l[max(0, len(l)-4):]...))
}

// honestSlowly is what Honest has to tell, told in another way.
func honestSlowly(s impl.Store) bool {
	if !storeRightSlowly(s) {
		return false
	}
	for _, e := range s.Cache {
		if s.Ver&1 == 1 || e.Ver != s.Ver {
			continue
		}
		named := false
		for _, k := range s.Grant.Keys {
			alive := !slices.Contains(s.Grant.Dead, k.Fam)
			named = named || k == impl.Key{No: e.Token, Client: e.Client, Fam: k.Fam, Till: e.Till} && alive
		}
		if !named {
			return false
		}
	}
	return true
}

// anyStore is a right store, of few numbers, whose cache names keys that are there more often than not.
func anyStore(random *rand.Rand) impl.Store {
	s := impl.Store{Grant: anyGrant(random), Ver: int64(random.Intn(4)), Lock: []int64{0, 1, 99}[random.Intn(3)]}
	for range random.Intn(2 * impl.MaxCache) {
		e := anyEntry(random, s.Grant)
		taken := slices.ContainsFunc(s.Cache, func(old impl.Entry) bool { return old.Token == e.Token })
		if !taken && len(s.Cache) < impl.MaxCache {
			s.Cache = append(s.Cache, e)
		}
	}
	return s
}

// anyEntry is an entry that might stand in a cache, and names a key of g more often than not.
func anyEntry(random *rand.Rand, g impl.Grant) impl.Entry {
	e := impl.Entry{Token: 1 + int64(random.Intn(12)), Client: 1 + int64(random.Intn(3)), Till: int64(random.Intn(3)), Ver: int64(random.Intn(4))}
	if len(g.Keys) > 0 && random.Intn(8) > 0 {
		k := g.Keys[random.Intn(len(g.Keys))]
		// Keys that open come more often so than they would.
		for range 4 {
			if k.Refresh || k.State != 0 {
				k = g.Keys[random.Intn(len(g.Keys))]
			}
		}
		e.Token, e.Client, e.Till = k.No, k.Client, k.Till
		if random.Intn(8) == 0 {
			e.Client = 1 + e.Client%3
		}
		if random.Intn(8) == 0 {
			e.Till = (e.Till + 1) % impl.MaxTime
		}
	}
	return e
}

// whole is all of s, and what stands behind each of its lists, as a text.
func whole(s impl.Store) string {
	g := s.Grant
	return fmt.Sprintf("%d %v %v %v %d %d %v", g.Now, g.Words[:cap(g.Words)], g.Keys[:cap(g.Keys)], g.Dead[:cap(g.Dead)], s.Ver, s.Lock, s.Cache[:cap(s.Cache)])
}

// withRoom is a copy of s with room behind each list: what is put there would be seen by whole.
func withRoom(s impl.Store) impl.Store {
	s = storeCopy(s)
	s.Grant.Words, s.Grant.Keys = slices.Grow(s.Grant.Words, 4), slices.Grow(s.Grant.Keys, 4)
	s.Grant.Dead, s.Cache = slices.Grow(s.Grant.Dead, 4), slices.Grow(s.Cache, 4)
	return s
}

// spoil overwrites all that the lists of s hold.
func spoil(s impl.Store) {
	for i := range s.Grant.Words {
		s.Grant.Words[i] = impl.Word{No: -1}
	}
	for i := range s.Grant.Keys {
		s.Grant.Keys[i] = impl.Key{No: -1}
	}
	for i := range s.Grant.Dead {
		s.Grant.Dead[i] = -1
	}
	for i := range s.Cache {
		s.Cache[i] = impl.Entry{Token: -1}
	}
}
