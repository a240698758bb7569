package tests

import (
	"fmt"
	"math"
	"math/rand"
	"slices"
	"testing"

	"loop.example/g00842/impl"
)

// allEnd fails the test where not all threads of w end within 60 rounds, where anything is locked then, or where a key that was
// revoked opens.
func allEnd(t *testing.T, what string, w impl.World) impl.World {
	t.Helper()
	out := impl.Fair(w, 60)
	same(t, what+", code", out.Code, int64(impl.OK))
	same(t, what+", ended", impl.Ended(out.World), true)
	same(t, what+", locked", out.World.Store.Lock, int64(0))
	same(t, what+", of an even version", out.World.Store.Ver%2, int64(0))
	for _, th := range out.World.Threads {
		same(t, what+", done", th.Done, true)
		same(t, what+", the revoked opens", revoked(w, th) && impl.Opens(out.World.Store.Grant, th.Req.Token, th.Req.Client), false)
	}
	return out.World
}

// revoked tells whether th ended as one that revoked a key that there was when it began. (Of one that there was not, another
// one may be given it later.)
func revoked(w impl.World, th impl.Thread) bool {
	there := func(k impl.Key) bool { return k.No == th.Req.Token && k.Client == th.Req.Client }
	return th.Req.Kind == impl.RqRevoke && th.Done && th.Resp.Code == impl.OK && (th.Pc > 0 || slices.ContainsFunc(w.First.Keys, there))
}

// P7: round by round all end, one to six of mixed kinds, from the beginning on, and from wherever others left them.
func TestFair(t *testing.T) {
	random := rand.New(rand.NewSource(28))
	seen := map[string]int{}
	for range 2000 {
		n := 1 + random.Intn(impl.MaxThreads)
		w := anyWorld(random, n)
		what := fmt.Sprintf("%+v", w)
		ended := allEnd(t, what, w)
		asIfInOrder(t, ended)
		next := anyPicks(random, n)
		var picks []int64
		for range random.Intn(25) {
			picks = append(picks, next())
		}
		midway := impl.Run(w, picks).World
		asIfInOrder(t, allEnd(t, fmt.Sprint(picks, " of ", what), midway))
		if t.Failed() {
			t.FailNow()
		}
		for _, th := range ended.Threads {
			if revoked(w, th) && impl.Opens(w.First, th.Req.Token, th.Req.Client) {
				seen["revoked what opened"]++
			}
		}
		if midway.Store.Lock != 0 {
			seen["locked midway"]++
		}
	}
	for _, what := range []string{"revoked what opened", "locked midway"} {
		if seen[what] < 50 {
			t.Errorf("%s came %d times alone", what, seen[what])
		}
	}
}

// manyKillers is as many who kill at once, of all kinds: all want what was used, changed or is to be revoked.
func manyKillers(n int) impl.World {
	all := []impl.Req{redeem(1, 1, 10, "ab"), revoke(2, 1, 51), refresh(3, 1, 52), revoke(4, 1, 52), redeem(6, 1, 10, "ab"), revoke(8, 2, 71)}
	changed := []func(*impl.Grant){state(1, 1)}
	return world(worldOf(all[:n]...), first(changed...), kept(granted(changed...)))
}

// P7: of those that kill at once all but one wait; each comes to its turn, and all that they killed opens nothing.
func TestFairKillers(t *testing.T) {
	for n := 1; n <= impl.MaxThreads; n++ {
		w := manyKillers(n)
		waited := 0
		for at := w; !impl.Ended(at); at = impl.Fair(at, 1).World {
			for i := range at.Threads {
				if th := at.Threads[i]; !th.Done && impl.Pick(at, int64(i)).World.Threads[i] == th {
					waited++
				}
			}
			if waited > 1000 {
				t.Fatalf("%d never end", n)
			}
		}
		same(t, fmt.Sprint(n, ", some wait"), waited > 0, n > 1)
		ended := allEnd(t, fmt.Sprint(n, " kill"), w)
		same(t, fmt.Sprint(n, ", the version"), ended.Store.Ver, int64(2*n))
		asIfInOrder(t, ended)
		for i, th := range ended.Threads {
			code := int64(impl.ErrState)
			if th.Req.Kind == impl.RqRevoke {
				code = impl.OK
			}
			same(t, fmt.Sprint(i, " of ", n), th.Resp, impl.Resp{Code: code})
		}
		for _, no := range []int64{51, 52, 53} {
			same(t, fmt.Sprint(n, ", key ", no), impl.Opens(ended.Store.Grant, no, 1), false)
		}
		same(t, fmt.Sprint(n, ", key 71"), impl.Opens(ended.Store.Grant, 71, 2), n < 6)
		same(t, fmt.Sprint(n, ", few rounds"), impl.Ended(impl.Fair(w, 6).World), false)
	}
	// Each one in turn has the lock for five rounds; what is ahead of that is done while others have it.
	same(t, "as many rounds as they need", impl.Ended(impl.Fair(manyKillers(6), 33).World), true)
}

// P7: who revoked a key, or all that came of its word, is sure then, whatever others do with it meanwhile, in whatever order.
func TestRevokedForSure(t *testing.T) {
	for _, l := range [][]impl.Req{
		{revoke(1, 1, 51), ask(2, 1, 51)},
		{revoke(1, 1, 51), redeem(2, 1, 10, "ab")},
		{revoke(1, 1, 51), tick(2, 20)},
		{revoke(1, 1, 52), refresh(2, 1, 52)},
		{revoke(1, 1, 52), refresh(2, 1, 52), refresh(3, 1, 22)},
		{revoke(1, 1, 52), refresh(2, 1, 52), ask(3, 1, 21)},
		{revoke(1, 1, 51), revoke(2, 1, 51), ask(3, 1, 51)},
		{revoke(1, 1, 51), revoke(2, 1, 53), revoke(3, 1, 52)},
	} {
		for _, what := range []string{"new", "cached"} {
			everyPick(t, world(worldOf(l...), beginnings()[what]), func(w impl.World) {
				for _, th := range w.Threads {
					if th.Req.Kind != impl.RqRevoke || !th.Done {
						continue
					}
					same(t, "told", th.Resp, impl.Resp{})
					same(t, named(th.Req)+" opens", impl.Opens(w.Store.Grant, th.Req.Token, 1), false)
					// Who asks from now on is told so, too.
					asked := impl.Alone(store(w.Store, locked(0)), ask(99, 1, th.Req.Token))
					same(t, named(th.Req)+", asked", asked.Thread.Resp, impl.Resp{})
				}
			})
			if t.Failed() {
				t.Fatalf("%+v, %s", l, what)
			}
		}
	}
	// What came of the word is taken with it, also what is given for another key of it at the same time.
	w := worldOf(revoke(1, 1, 52), refresh(2, 1, 52))
	everyPick(t, w, func(w impl.World) {
		if impl.Ended(w) {
			same(t, "given meanwhile", impl.Opens(w.Store.Grant, 21, 1) || impl.Opens(w.Store.Grant, 53, 1), false)
		}
	})
}

// P7: rounds are 0 to 60; so often each thread is picked, in order.
func TestFairRounds(t *testing.T) {
	for n := 1; n <= impl.MaxThreads; n++ {
		for what, w := range map[string]impl.World{
			"mixed": worldOf(sixReqs()[:n]...), "killers": manyKillers(n), "midway": impl.Run(manyKillers(n), []int64{0, 0, 1, 1, 0, 0, 1}).World,
		} {
			for rounds := range 61 {
				before := worldCopy(w)
				got := impl.Fair(w, int64(rounds))
				sameWorld(t, fmt.Sprint(what, " of ", n, ", ", rounds, " rounds"), got, runSlowly(w, fairPicks(rounds, n)))
				sameWorld(t, fmt.Sprint(what, " of ", n, ", what was handed in"), impl.WorldOut{World: w}, impl.WorldOut{World: before})
			}
			for _, rounds := range []int64{-1, 61, 62, 400, 401, 1 << 32, math.MaxInt64, math.MinInt64} {
				sameWorld(t, fmt.Sprint(what, " of ", n, ", ", rounds, " rounds"), impl.Fair(w, rounds), impl.WorldOut{Code: impl.ErrForm})
			}
		}
	}
	waits := world(worldOf(revoke(1, 1, 51), tick(2, 5)), kept(locked(1)))
	stuck := impl.Fair(waits, 60)
	sameWorld(t, "who waits for itself", stuck, runSlowly(waits, fairPicks(2, 2)))
	same(t, "who waits for itself, ended", impl.Ended(stuck.World), false)
}
