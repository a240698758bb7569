package tests

import (
	"fmt"
	"math/rand"
	"slices"
	"testing"

	"loop.example/g00842/impl"
)

// asIfInLine fails the test where Linear does not tell of w that there is an order, where Order tells another one than such a one,
// where two won one word, or where the store that is left is not right and honest.
func asIfInLine(t *testing.T, w impl.World) []int64 {
	t.Helper()
	l := reqsOf(w)
	same(t, "linear", impl.Linear(w.First, l, w.Log), true)
	same(t, "a right log", impl.LogRight(w.Log, int64(len(l))), true)
	order := impl.Order(w.First, l, w.Log)
	same(t, "an order where anything returned", len(order) > 0, len(places(w.Log, true)) > 0)
	if len(order) > 0 && (!standsRight(l, w.Log, order) || !isTold(impl.GrantDo, w.First, l, w.Log, order)) {
		t.Errorf("%v is no order", order)
	}
	for _, r := range l {
		same(t, "one at most won", impl.Winners(l, w.Log, r.Code) <= 1, true)
	}
	same(t, "right", impl.WorldRight(w) && impl.StoreRight(w.Store), true)
	same(t, "honest", impl.Honest(w.Store), true)
	if t.Failed() {
		t.Fatalf("%+v", w)
	}
	return order
}

// P6: worlds of one to six threads have an order, whichever way they are run: behind each pick, and when all ended.
func TestWorldsInLine(t *testing.T) {
	random := rand.New(rand.NewSource(33))
	ends, ways := 0, map[int]int{}
	for range 200 {
		begin := anyWorld(random, 1+random.Intn(impl.MaxThreads))
		told := map[string]bool{}
		for range 6 {
			w := begin
			next := anyPicks(random, len(w.Threads))
			for range 60 {
				w = impl.Pick(w, next()).World
				if random.Intn(6) == 0 {
					asIfInLine(t, w)
				}
			}
			w = impl.Fair(w, 60).World
			same(t, "ended", impl.Ended(w), true)
			order := asIfInLine(t, w)
			same(t, "all are in it", len(order), len(w.Threads))
			told[fmt.Sprint(w.Threads)] = true
			ends++
		}
		ways[min(len(told), 3)]++
	}
	// Which way they are run turns what they are told, now and then.
	same(t, "ways", ends == 1200 && ways[1] > 25 && ways[2] > 15 && ways[3] > 15, true)
}

// P6: of a word that many come for, in whatever order, one wins, if it is good, and the world is as if they came one after the
// other; who comes behind takes what the first one was given.
func TestWinnersInLine(t *testing.T) {
	for n := 1; n <= 3; n++ {
		l := []impl.Req{redeem(1, 2, 20, "xyz"), redeem(2, 2, 20, "xyz"), redeem(3, 2, 20, "xyz")}[:n]
		firsts := map[int64]bool{}
		everyPick(t, worldOf(l...), func(w impl.World) {
			order := asIfInLine(t, w)
			if !impl.Ended(w) {
				return
			}
			same(t, "one of a good word", impl.Winners(l, w.Log, 20), int64(1))
			same(t, "who won stands first", w.Threads[order[0]].Resp, toldKeys(order[0]+1))
			same(t, "dead", len(w.Store.Grant.Dead), min(n-1, 1))
			firsts[order[0]] = true
		})
		same(t, "each one may win", len(firsts), n)
	}
	random := rand.New(rand.NewSource(34))
	won := map[int64]int{}
	for range 300 {
		begin := worldOf(redeem(1, 2, 20, "xyz"), redeem(2, 2, 20, "xyz"), redeem(3, 2, 20, "xyz"), redeem(4, 2, 20, "xyz"), tick(6, 4), redeem(8, 2, 20, "xyz"))
		next := anyPicks(random, 6)
		var picks []int64
		for range 40 {
			picks = append(picks, next())
		}
		w := impl.Fair(impl.Run(begin, picks).World, 60).World
		order := asIfInLine(t, w)
		n := impl.Winners(reqsOf(w), w.Log, 20)
		won[n]++
		// Who comes behind the time finds that it is over, but for those that find that it was used.
		late := slices.Index(order, 4) == 0
		same(t, "none wins a word whose time is over", n == 0, late)
	}
	same(t, "one wins, or none", won[0] > 5 && won[1] > 100 && len(won) == 2, true)
}

// P6: a log that is not as if they came one after the other is told to be none.
func TestNotInLine(t *testing.T) {
	w := impl.Fair(worldOf(sixReqs()...), 60).World
	asIfInLine(t, w)
	l := reqsOf(w)
	for i, e := range w.Log {
		if !e.Return {
			continue
		}
		for what, resp := range map[string]impl.Resp{
			"with a Code": {Code: 77}, "with other keys": {Token: 991, Next: 992}, "with yes and a Token": {Token: 1, Yes: true},
		} {
			log := slices.Clone(w.Log)
			log[i].Resp = resp
			noOrder(t, fmt.Sprint(named(l[e.Thread]), " ", what), w.First, l, log)
		}
	}
	// Both won; of the two of which one won, one was told so ahead of the other one's beginning.
	for _, n := range []int{2, 3, 4, 5, 6} {
		var l []impl.Req
		var ends []impl.Event
		for at := range int64(n) {
			l = append(l, redeem(at+11, 2, 20, "xyz"))
			ends = append(ends, returned(at, toldKeys(at+11)))
		}
		both := allBegun(n, ends...)
		noOrder(t, fmt.Sprint("all of ", n, " won"), twoWords(), l, both)
		same(t, fmt.Sprint("all of ", n, ", winners"), impl.Winners(l, both, 20), int64(n))
		for at := range ends[1:] {
			ends[at+1].Resp = toldLost
		}
		orderedAs(t, fmt.Sprint("one of ", n), twoWords(), l, allBegun(n, ends...), []int64{0, 1, 2, 3, 4, 5}[:n], true)
		late := append([]impl.Event{begun(1), returned(1, toldLost)}, slices.DeleteFunc(allBegun(n, ends...), func(e impl.Event) bool { return e.Thread == 1 })...)
		noOrder(t, fmt.Sprint("one of ", n, ", too late"), twoWords(), l, late)
	}
}
