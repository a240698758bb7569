package tests

import (
	"fmt"
	"math/rand"
	"slices"
	"testing"

	"loop.example/g00842/impl"
)

// P6: an order is found where there is one, and none where there is none.
func TestOrderFinder(t *testing.T) {
	g := twoWords()
	won, lost := impl.Resp{Token: 11, Next: 12}, impl.Resp{Code: impl.ErrState}
	yes := impl.Resp{Yes: true}
	l := []impl.Req{redeem(1, 2, 20, "xyz"), redeem(2, 2, 20, "xyz"), ask(3, 2, 11)}
	all := []impl.Event{begun(0), begun(1), begun(2)}
	for what, c := range map[string]struct {
		log   []impl.Event
		order []int
		found bool
	}{
		"nothing":                        {nil, nil, true},
		"nothing returned":               {all, nil, true},
		"the first one won":              {append(all[:3:3], returned(1, lost), returned(0, won)), []int{0, 1}, true},
		"as if first, but it began last": {[]impl.Event{begun(1), returned(1, lost), begun(0), returned(0, won)}, nil, false},
		"one that did not return won":    {[]impl.Event{begun(1), begun(0), returned(1, lost)}, []int{0, 1}, true},
		"none that began could have won": {[]impl.Event{begun(1), returned(1, lost), begun(0)}, nil, false},
		"both won":                       {append(all[:3:3], returned(0, won), returned(1, impl.Resp{Token: 21, Next: 22})), nil, false},
		"both lost":                      {append(all[:3:3], returned(0, lost), returned(1, lost)), nil, false},
		"asked between":                  {append(all[:3:3], returned(0, won), returned(1, lost), returned(2, yes)), []int{0, 2, 1}, true},
		"asked behind":                   {append(all[:3:3], returned(0, won), returned(1, lost), returned(2, impl.Resp{})), []int{0, 1, 2}, true},
		"asked when it was killed":       {[]impl.Event{begun(0), begun(1), returned(0, won), returned(1, lost), begun(2), returned(2, yes)}, nil, false},
		"asked too early":                {[]impl.Event{begun(2), returned(2, yes), begun(0), begun(1), returned(0, won), returned(1, lost)}, nil, false},
		"asked early":                    {[]impl.Event{begun(2), returned(2, impl.Resp{}), begun(0), begun(1), returned(0, won), returned(1, lost)}, []int{2, 0, 1}, true},
	} {
		order, found := orderOf(g, l, c.log)
		same(t, what, fmt.Sprint(order, found), fmt.Sprint(c.order, c.found))
	}
}

// everyPick goes through all worlds that come of w by picks in any order, each once: visit is told of each. It fails the
// test where one of them is not as if in order.
func everyPick(t *testing.T, w impl.World, visit func(impl.World)) {
	t.Helper()
	seen := map[string]bool{}
	todo := []impl.World{w}
	for len(todo) > 0 && !t.Failed() {
		w := todo[len(todo)-1]
		todo = todo[:len(todo)-1]
		// What stands in First, and who serves what, stays the same.
		key := fmt.Sprint(w.Store, w.Threads, w.Log)
		if seen[key] {
			continue
		}
		seen[key] = true
		asIfInOrder(t, w)
		visit(w)
		for at := range w.Threads {
			if !w.Threads[at].Done {
				todo = append(todo, impl.Pick(w, int64(at)).World)
			}
		}
	}
}

// wishes is requests of all kinds of that number, about what worldOf has, or what is given to the one of the number other.
func wishes(no, other int64) []impl.Req {
	return []impl.Req{
		issue(no, 1, "ba"), redeem(no, 2, 20, "xyz"), redeem(no, 2, 20, "zyx"), redeem(no, 1, 10, "ab"), redeem(no, 1, other, "ab"),
		refresh(no, 1, 52), refresh(no, 1, 10*other+2), refresh(no, 2, 10*other+2), revoke(no, 1, 51), revoke(no, 1, 52), revoke(no, 2, 10*other+1),
		ask(no, 1, 51), ask(no, 1, 52), ask(no, 1, 53), ask(no, 2, 10*other+1), tick(no, 3), tick(no, 4), tick(no, 21),
	}
}

// beginnings is what a world may begin with: nothing beside the grant, or something in the cache, or what was changed already.
func beginnings() map[string]func(*impl.World) {
	changed := []func(*impl.Grant){state(1, 1), used(1)}
	return map[string]func(*impl.World){
		"new":     kept(),
		"cached":  kept(version(6), cache(twoCached().Cache...)),
		"changed": func(w *impl.World) { first(changed...)(w); kept(granted(changed...))(w) },
	}
}

// P6: each two that are served at once, in whatever order the steps come, are told what is told in some order.
func TestEachTwoAtOnce(t *testing.T) {
	worlds, ends := 0, map[string]bool{}
	for what, begin := range beginnings() {
		for _, a := range wishes(1, 2) {
			for _, b := range wishes(2, 1) {
				everyPick(t, world(worldOf(a, b), begin), func(w impl.World) {
					worlds++
					if impl.Ended(w) {
						ends[fmt.Sprint(what, a, b, w.Threads[0].Resp, w.Threads[1].Resp)] = true
						same(t, named(a)+named(b)+", locked", w.Store.Lock, int64(0))
					}
				})
				if t.Failed() {
					t.Fatalf("%s and %s, %s", named(a), named(b), what)
				}
			}
		}
	}
	// Some two are told one thing or another, as it comes.
	pairs := len(wishes(1, 2)) * len(wishes(2, 1)) * len(beginnings())
	if worlds < 20*pairs || len(ends) < pairs+50 {
		t.Errorf("%d worlds of %d pairs, which ended in %d ways", worlds, pairs, len(ends))
	}
}

// P6: it is so of three and four that are served at once and want the same.
func TestSeveralAtOnce(t *testing.T) {
	for _, c := range []struct {
		begin string
		l     []impl.Req
	}{
		{"new", []impl.Req{redeem(1, 2, 20, "xyz"), redeem(2, 2, 20, "xyz"), ask(3, 2, 11)}},
		{"new", []impl.Req{redeem(1, 2, 20, "xyz"), ask(2, 2, 11), revoke(3, 2, 11)}},
		{"new", []impl.Req{redeem(1, 2, 20, "xyz"), tick(2, 3), tick(3, 1), redeem(4, 2, 20, "xyz")}},
		{"new", []impl.Req{issue(1, 1, "ba"), redeem(2, 1, 1, "ab"), redeem(3, 1, 1, "ab")}},
		{"new", []impl.Req{refresh(1, 1, 52), refresh(2, 1, 52), refresh(3, 1, 12)}},
		{"new", []impl.Req{refresh(1, 1, 52), refresh(2, 1, 52), ask(3, 1, 51)}},
		{"new", []impl.Req{refresh(1, 1, 52), revoke(2, 1, 52), ask(3, 1, 52)}},
		{"changed", []impl.Req{refresh(1, 1, 52), revoke(2, 1, 52), ask(3, 1, 52)}},
		{"new", []impl.Req{redeem(1, 1, 10, "ab"), ask(2, 1, 51), ask(3, 1, 51)}},
		{"cached", []impl.Req{redeem(1, 1, 10, "ab"), ask(2, 1, 51), ask(3, 1, 51)}},
		{"new", []impl.Req{revoke(1, 1, 51), ask(2, 1, 51), ask(3, 1, 51)}},
		{"cached", []impl.Req{revoke(1, 1, 51), ask(2, 1, 51), ask(3, 1, 51)}},
		{"cached", []impl.Req{revoke(1, 1, 52), ask(2, 1, 51), ask(3, 1, 53)}},
		{"cached", []impl.Req{revoke(1, 1, 51), revoke(2, 1, 52), ask(3, 1, 51)}},
		{"new", []impl.Req{revoke(1, 1, 51), tick(2, 21), ask(3, 1, 51)}},
		{"cached", []impl.Req{ask(1, 1, 51), revoke(2, 1, 51), ask(3, 1, 51), tick(4, 21)}},
	} {
		worlds := 0
		everyPick(t, world(worldOf(c.l...), beginnings()[c.begin]), func(impl.World) { worlds++ })
		if t.Failed() || worlds < 50 {
			t.Fatalf("%+v, %s, %d worlds", c.l, c.begin, worlds)
		}
	}
}

// winners is how many that redeem a word of that number returned with OK.
func winners(w impl.World, code int64) int {
	n := 0
	for _, e := range w.Log {
		if r := w.Threads[e.Thread].Req; e.Return && e.Resp.Code == impl.OK && r.Kind == impl.RqRedeem && r.Code == code {
			n++
		}
	}
	return n
}

// P6: of one word one wins at most, in whatever order the steps come; of a good one just one, when all ended.
func TestOneWins(t *testing.T) {
	three := worldOf(redeem(1, 2, 20, "xyz"), redeem(2, 2, 20, "xyz"), redeem(3, 2, 20, "xyz"))
	won := map[int64]int{}
	everyPick(t, three, func(w impl.World) {
		n := winners(w, 20)
		same(t, "one at most", n <= 1, true)
		if !impl.Ended(w) {
			return
		}
		same(t, "one of a good word", n, 1)
		for _, th := range w.Threads {
			if th.Resp.Code == impl.OK {
				won[th.Req.No]++
				continue
			}
			same(t, "the others", th.Resp, impl.Resp{Code: impl.ErrState})
		}
		// Who came second took all that the first one was given.
		same(t, "dead", fmt.Sprint(w.Store.Grant.Dead), "[20]")
	})
	same(t, "each of them may win", len(won), 3)
	random := rand.New(rand.NewSource(26))
	for range 300 {
		w := worldOf(redeem(1, 2, 20, "xyz"), redeem(2, 2, 20, "xyz"), redeem(3, 2, 20, "xyz"), redeem(4, 2, 20, "xyz"), tick(6, 1+int64(random.Intn(4))), redeem(8, 2, 20, "zyx"))
		next := anyPicks(random, 6)
		for !impl.Ended(w) {
			w = impl.Pick(w, next()).World
			same(t, "one at most", winners(w, 20) <= 1, true)
		}
		same(t, "but with another proof", w.Threads[5].Resp, impl.Resp{Code: impl.ErrNone})
		late := w.Threads[0].Resp.Code == impl.ErrRange
		same(t, "one of a good word", winners(w, 20) == 1, !late)
		asIfInOrder(t, w)
	}
}

// inThatOrder tells whether each one is told what it returned, if they come one after the other in that order.
func inThatOrder(w impl.World, order []int64) bool {
	g := w.First
	for _, at := range order {
		out := impl.GrantDo(g, w.Threads[at].Req)
		if out.Resp != w.Threads[at].Resp {
			return false
		}
		g = out.Grant
	}
	return true
}

// places is the threads of the events that are returns, or of those that are not, as they come.
func places(log []impl.Event, returns bool) []int64 {
	var l []int64
	for _, e := range log {
		if e.Return == returns {
			l = append(l, e.Thread)
		}
	}
	return l
}

// P6: two to six of mixed kinds, in many orders of picks, are told what is told in some order; and behind each pick the store
// is right, and what its cache holds is honest.
func TestManyAtOnce(t *testing.T) {
	random := rand.New(rand.NewSource(27))
	seen := map[string]int{}
	for range 1500 {
		w := anyWorld(random, 2+random.Intn(impl.MaxThreads-1))
		begin := w
		next := anyPicks(random, len(w.Threads))
		var picks []int64
		for !impl.Ended(w) && len(picks) < impl.MaxList {
			at := next()
			// Who came too seldom comes to its turn in the end.
			if len(picks) > 100 {
				at = int64(len(picks) % len(w.Threads))
			}
			picks = append(picks, at)
			ahead := w
			w = impl.Pick(w, at).World
			if !impl.WorldRight(w) || !impl.StoreRight(w.Store) || !impl.Honest(w.Store) || !honestSlowly(w.Store) {
				t.Fatalf("not right, or not honest, by %d: %+v", at, ahead)
			}
			// What was told so far has an order too.
			if random.Intn(8) == 0 {
				asIfInOrder(t, w)
			}
			count(seen, ahead, w, at)
		}
		same(t, "all ended", impl.Ended(w), true)
		asIfInOrder(t, w)
		sameWorld(t, "all at once", impl.Run(begin, picks), impl.WorldOut{World: w})
		if t.Failed() {
			t.Fatalf("%v of %+v", picks, begin)
		}
		seen[fmt.Sprint("as they began ", inThatOrder(w, places(w.Log, false)))]++
		seen[fmt.Sprint("as they returned ", inThatOrder(w, places(w.Log, true)))]++
	}
	for _, what := range []string{
		"as they began true", "as they began false", "as they returned true", "as they returned false", "waits", "killed", "odd version",
		"asked of an old version, yes", "asked of an old version, no", "from the cache", "not put", "dead meanwhile", "range", "changed meanwhile",
	} {
		if seen[what] < 10 {
			t.Errorf("%s came %d times alone", what, seen[what])
		}
	}
}

// count counts what came of ahead by a pick that led to w.
func count(seen map[string]int, ahead, w impl.World, at int64) {
	was, is := ahead.Threads[at], w.Threads[at]
	asks := was.Req.Kind == impl.RqAsk
	old := asks && was.Ver != ahead.Store.Ver && was.Ver%2 == 0
	for what, so := range map[string]bool{
		"waits":                        !was.Done && was == is,
		"killed":                       is.Done && is.Resp.Code == impl.ErrState && !was.Done,
		"odd version":                  asks && was.Pc == 0 && is.Pc == 2,
		"asked of an old version, yes": old && was.Pc > 0 && is.Done && is.Resp.Yes && !was.Done,
		"asked of an old version, no":  old && was.Pc > 0 && is.Done && !is.Resp.Yes && !was.Done,
		"from the cache":               asks && was.Pc == 1 && is.Done && !was.Done,
		"not put":                      asks && was.Pc == 4 && !was.Done && slices.Equal(ahead.Store.Cache, w.Store.Cache),
		"dead meanwhile":               asks && was.Pc == 3 && is.Done && !is.Resp.Yes && !was.Done,
		"range":                        is.Done && is.Resp.Code == impl.ErrRange && !was.Done,
		"changed meanwhile":            was.Req.Kind == impl.RqRefresh && was.Pc == 2 && is.Pc == 5,
	} {
		if so {
			seen[what]++
		}
	}
}

func FuzzWorlds(f *testing.F) {
	f.Add(int64(1), []byte{0, 1, 2, 1, 0, 0, 5}, int64(60))
	f.Add(int64(7), []byte{9, 1, 1, 1, 0, 3, 2}, int64(-1))
	f.Fuzz(func(t *testing.T, seed int64, order []byte, rounds int64) {
		random := rand.New(rand.NewSource(seed))
		w := anyWorld(random, 1+random.Intn(impl.MaxThreads))
		var picks []int64
		for _, at := range order[:min(len(order), impl.MaxList)] {
			picks = append(picks, int64(at%8)-1)
		}
		run := impl.Run(w, picks)
		sameWorld(t, "run", run, runSlowly(w, picks))
		asIfInOrder(t, run.World)
		fair := impl.Fair(run.World, rounds)
		if rounds < 0 || rounds > 60 {
			sameWorld(t, "rounds", fair, impl.WorldOut{Code: impl.ErrForm})
			return
		}
		sameWorld(t, "rounds", fair, runSlowly(runSlowly(run.World, fairPicks(int(rounds)/2, len(w.Threads))).World, fairPicks(int(rounds)-int(rounds)/2, len(w.Threads))))
		asIfInOrder(t, fair.World)
		byHand(random, &w)
		sameWorld(t, "run, by hand", impl.Run(w, picks), runSlowly(w, picks))
	})
}
