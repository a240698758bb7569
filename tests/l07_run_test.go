package tests

import (
	"fmt"
	"math"
	"math/rand"
	"runtime"
	"slices"
	"testing"
	"time"

	"loop.example/g00842/impl"
)

// P6: a pick begins a thread that has not begun, takes its step, and returns it if that is the last one.
func TestPick(t *testing.T) {
	w := worldOf(sixReqs()...)
	picked(t, "begins", w, 2, world(w, thread(2, func(th *impl.Thread) { th.Ver, th.Pc = 0, 1 }), logged(begun(2))))
	began := world(w, ahead(0, 1), logged(begun(0)))
	picked(t, "begins, redeem", w, 0, began)
	spent := granted(used(1), keys(newKeys(1, 2, 20, 160, 400)...))
	told := impl.Resp{Token: 11, Next: 12}
	ended := world(began, kept(spent), done(0, told), logged(returned(0, told)))
	picked(t, "returns", began, 0, ended)
	picked(t, "another one begins", ended, 3, world(ended, ahead(3, 1), logged(begun(3))))
	picked(t, "one between the others", world(began, logged(begun(5), returned(5, impl.Resp{}))), 0, world(began, kept(spent), done(0, told), logged(begun(5), returned(5, impl.Resp{}), returned(0, told))))
	once := worldOf(issue(9, 1, "ab"), tick(1, 7))
	picked(t, "begins and returns", once, 1, world(once, kept(granted(atTime(107))), done(1, impl.Resp{}), logged(begun(1), returned(1, impl.Resp{}))))
	word := granted(words(impl.Word{No: 9, Client: 1, Shade: "ab", Till: 110}))
	picked(t, "begins and returns, with an answer", once, 0, world(once, kept(word), done(0, impl.Resp{Token: 9}), logged(begun(0), returned(0, impl.Resp{Token: 9}))))
	refused := worldOf(redeem(9, 2, 20, "zyx"))
	picked(t, "refused", refused, 0, world(refused, done(0, impl.Resp{Code: impl.ErrNone}), logged(begun(0), returned(0, impl.Resp{Code: impl.ErrNone}))))
	midway := world(worldOf(ask(9, 1, 53)), ahead(0, 4), thread(0, func(th *impl.Thread) { th.Till = 120 }))
	e := impl.Entry{Token: 53, Client: 1, Till: 120}
	yes := impl.Resp{Yes: true}
	picked(t, "midway, and not begun", midway, 0, world(midway, kept(cache(e)), done(0, yes), logged(begun(0), returned(0, yes))))
}

// P6: of one that is done nothing comes, whatever the log has of it; a place of no thread is told.
func TestPickOfNone(t *testing.T) {
	for n := 1; n <= impl.MaxThreads; n++ {
		w := worldOf(sixReqs()[:n]...)
		for at := range n {
			for what, ended := range map[string]impl.World{
				"done":                  world(w, done(at, impl.Resp{Code: 5})),
				"done, and begun":       world(w, done(at, impl.Resp{Code: 5}), logged(begun(int64(at)))),
				"done, and returned":    world(w, done(at, impl.Resp{Code: 5}), logged(begun(int64(at)), returned(int64(at), impl.Resp{Code: 6}))),
				"done, ahead of a step": world(w, ahead(at, 7), done(at, impl.Resp{})),
				"done, and locked":      world(w, ahead(at, 9), done(at, impl.Resp{}), kept(locked(w.Threads[at].Req.No), version(7))),
			} {
				picked(t, fmt.Sprint(what, ", ", at, " of ", n), ended, int64(at), ended)
			}
		}
		for _, at := range []int64{-1, int64(n), int64(n) + 1, math.MaxInt64, math.MinInt64, 1 << 32, -1 << 32} {
			sameWorld(t, fmt.Sprint(at, " of ", n), impl.Pick(w, at), impl.WorldOut{Code: impl.ErrNone})
			sameWorld(t, fmt.Sprint(at, " of ", n, ", run"), impl.Run(w, []int64{at}), impl.WorldOut{World: w})
			sameWorld(t, fmt.Sprint(at, " of ", n, ", no right world"), impl.Pick(world(w, kept(version(-1))), at), impl.WorldOut{Code: impl.ErrForm})
		}
	}
}

// P6: one that waits for the lock does nothing, but that it begins; whoever has the lock goes on.
func TestPickWaits(t *testing.T) {
	w := world(worldOf(revoke(1, 1, 51), revoke(2, 1, 52), ask(3, 1, 51)), ahead(0, 7), ahead(1, 5), kept(locked(1), version(7)), logged(begun(0), begun(1)))
	picked(t, "waits", w, 1, w)
	fresh := world(w, func(w *impl.World) { w.Log = w.Log[:1] })
	picked(t, "waits, and begins", fresh, 1, w)
	own := world(w, kept(locked(2)))
	picked(t, "waits for itself", own, 1, own)
	killed := world(w, ahead(0, 8), kept(granted(state(0, 2))))
	picked(t, "who has the lock", w, 0, killed)
	free := world(killed, kept(version(8), locked(0)), ahead(0, 9), done(0, impl.Resp{}), logged(returned(0, impl.Resp{})))
	sameWorld(t, "gives it back", impl.Run(killed, []int64{1, 0, 1, 0, 0}), impl.WorldOut{World: free})
	picked(t, "who waited", free, 1, world(free, ahead(1, 6), kept(locked(2))))
	asked := impl.Run(w, []int64{2, 1, 2, 1, 2}).World
	sameWorld(t, "others go on", impl.WorldOut{World: asked}, runSlowly(w, []int64{2, 2, 2}))
	same(t, "told while it waits", asked.Threads[2].Resp, impl.Resp{Yes: true})
}

// P6: what comes of a thread that was made by hand may be a world that is not right, which nothing turns any more.
func TestPickLeavesWrong(t *testing.T) {
	base := worldOf(tick(1, 1), tick(2, 2), redeem(3, 2, 20, "xyz"))
	again := world(base, logged(begun(0), returned(0, impl.Resp{Code: 7})))
	twice := world(again, kept(granted(atTime(101))), done(0, impl.Resp{}), logged(returned(0, impl.Resp{})))
	full := world(base, kept(granted(func(g *impl.Grant) { g.Words, g.Keys = append(manyWords(1), g.Words[1]), manyKeys(39) })), ahead(2, 1))
	told := impl.Resp{Token: 31, Next: 32}
	over := world(full, kept(granted(used(1), keys(newKeys(3, 2, 20, 160, 400)...))), done(2, told), logged(begun(2), returned(2, told)))
	for what, c := range map[string]struct {
		w    impl.World
		at   int64
		then impl.World
	}{"returns twice": {again, 0, twice}, "too many keys": {full, 2, over}} {
		sameWorldRight(t, what+", ahead", c.w, true)
		sameWorldRight(t, what+", behind", c.then, false)
		picked(t, what, c.w, c.at, c.then)
		for _, picks := range [][]int64{{c.at, 1}, {c.at, c.at, 1, 2, 0}, {c.at, 9, 0, 1, 2, -1}} {
			sameWorld(t, fmt.Sprint(what, ", and ", picks), impl.Run(c.w, picks), impl.WorldOut{World: c.then})
			sameWorld(t, fmt.Sprint(what, ", and one by one ", picks), runSlowly(c.w, picks), impl.WorldOut{World: c.then})
		}
		sameWorld(t, what+", but others first", impl.Run(c.w, []int64{1, c.at, 0, 2}), runSlowly(c.w, []int64{1, c.at}))
		sameWorld(t, what+", round by round", impl.Fair(c.w, 60), runSlowly(c.w, fairPicks(20, 3)))
	}
	room := world(full, kept(granted(func(g *impl.Grant) { g.Keys = g.Keys[:38] })))
	sameWorldRight(t, "the last room", impl.Pick(room, 2).World, true)
	sameWorld(t, "the last room, and others", impl.Run(room, []int64{2, 1, 0}), runSlowly(room, []int64{2, 1, 0}))
	same(t, "the last room, all done", impl.Ended(impl.Fair(room, 2).World), true)
}

// P6: a run is one pick after the other; one of which a code is told turns nothing.
func TestRun(t *testing.T) {
	w := worldOf(redeem(1, 2, 20, "xyz"), redeem(2, 2, 20, "xyz"), ask(3, 2, 11))
	a := world(w, ahead(0, 1), logged(begun(0)))
	b := world(a, ahead(1, 1), logged(begun(1)))
	first := impl.Resp{Token: 21, Next: 22}
	c := world(b, kept(granted(used(1), keys(newKeys(2, 2, 20, 160, 400)...))), done(1, first), logged(returned(1, first)))
	d := world(c, ahead(0, 5))
	e := world(d, ahead(2, 1), logged(begun(2)))
	for what, x := range map[string]struct {
		picks []int64
		then  impl.World
	}{
		"no picks":                 {nil, w},
		"an empty list":            {[]int64{}, w},
		"one":                      {[]int64{0}, a},
		"two":                      {[]int64{0, 1}, b},
		"three":                    {[]int64{0, 1, 1}, c},
		"four":                     {[]int64{0, 1, 1, 0}, d},
		"five":                     {[]int64{0, 1, 1, 0, 2}, e},
		"one that is done between": {[]int64{0, 1, 1, 1, 0, 1, 2}, e},
		"codes at the beginning":   {[]int64{3, -1, 0, 1, 1, 0, 2}, e},
		"codes at the end":         {[]int64{0, 1, 1, 0, 2, math.MinInt64, 3}, e},
		"codes between":            {[]int64{0, 3, 1, 4, 1, 1 << 32, 0, -1, 2}, e},
		"codes alone":              {[]int64{3, -1, math.MaxInt64}, w},
	} {
		before := worldCopy(w)
		picks := slices.Clone(x.picks)
		sameWorld(t, what, impl.Run(w, picks), impl.WorldOut{World: x.then})
		sameWorld(t, what+", told in another way", runSlowly(w, picks), impl.WorldOut{World: x.then})
		same(t, what+", the picks", slices.Equal(picks, x.picks), true)
		sameWorld(t, what+", what was handed in", impl.WorldOut{World: w}, impl.WorldOut{World: before})
	}
	killed := impl.Run(e, []int64{0, 2, 0, 0, 0, 2, 0}).World
	same(t, "told who came second", killed.Threads[0].Resp, impl.Resp{Code: impl.ErrState})
	same(t, "told who asked", killed.Threads[2].Resp, impl.Resp{})
	same(t, "ended", impl.Ended(killed), true)
	want := []impl.Event{begun(0), begun(1), returned(1, first), begun(2), returned(2, impl.Resp{}), returned(0, impl.Resp{Code: impl.ErrState})}
	same(t, "log", fmt.Sprint(killed.Log), fmt.Sprint(want))
}

// P6: of more than MaxList picks the size is told, ahead of all else.
func TestRunSizes(t *testing.T) {
	w := worldOf(sixReqs()...)
	wrong := world(w, kept(locked(50)))
	for n, code := range map[int]int64{399: impl.OK, impl.MaxList: impl.OK, impl.MaxList + 1: impl.ErrSize, 10000: impl.ErrSize} {
		picks := fairPicks(n/6+1, 6)[:n]
		out := impl.Run(w, picks)
		same(t, fmt.Sprint(n, " picks"), out.Code, code)
		sameWorld(t, fmt.Sprint(n, " picks, told in another way"), out, runSlowly(w, picks))
		same(t, fmt.Sprint(n, " picks, ended"), impl.Ended(out.World), code == impl.OK)
		if code == impl.OK {
			code = impl.ErrForm
		}
		sameWorld(t, fmt.Sprint(n, " picks of a wrong world"), impl.Run(wrong, picks), impl.WorldOut{Code: code})
		sameWorld(t, fmt.Sprint(n, " picks of nothing"), impl.Run(impl.World{}, picks), impl.WorldOut{Code: code})
	}
	// The last one of MaxList picks is one too.
	picks := make([]int64, impl.MaxList)
	picks[impl.MaxList-1] = 2
	ended := worldOf(tick(1, 1), tick(2, 1), tick(3, 1))
	same(t, "the last pick", impl.Run(ended, picks).World.Store.Grant.Now, int64(102))
}

// P6: all are done, or not, in a right world.
func TestEnded(t *testing.T) {
	for n := 1; n <= impl.MaxThreads; n++ {
		w := worldOf(sixReqs()[:n]...)
		same(t, fmt.Sprint("none of ", n), impl.Ended(w), false)
		all := world(w, allDone)
		same(t, fmt.Sprint("all of ", n), impl.Ended(all), true)
		same(t, fmt.Sprint("all of ", n, ", locked"), impl.Ended(world(all, kept(locked(w.Threads[n-1].Req.No), version(7)))), true)
		same(t, fmt.Sprint("all of ", n, ", not right"), impl.Ended(world(all, kept(locked(50)))), false)
		same(t, fmt.Sprint("all of ", n, ", one event too many"), impl.Ended(world(all, logged(begun(0), begun(0)))), false)
		for at := range n {
			same(t, fmt.Sprint("all but ", at, " of ", n), impl.Ended(world(all, thread(at, func(th *impl.Thread) { th.Done = false }))), false)
			same(t, fmt.Sprint(at, " of ", n), impl.Ended(world(w, done(at, impl.Resp{}))), n == 1)
		}
	}
	same(t, "nothing", impl.Ended(impl.World{}), false)
}

// P6: over worlds of all kinds, also with threads that were made by hand, picks, runs and rounds do what another one tells.
func TestRunsAtRandom(t *testing.T) {
	random := rand.New(rand.NewSource(24))
	seen := map[string]int{}
	for range 3000 {
		w := anyWorld(random, 1+random.Intn(impl.MaxThreads))
		byHand(random, &w)
		next := anyPicks(random, len(w.Threads))
		var picks []int64
		for range random.Intn(30) {
			picks = append(picks, next())
			if random.Intn(12) == 0 {
				picks = append(picks, int64(random.Intn(12)-3))
			}
		}
		before := worldCopy(w)
		want := runSlowly(w, picks)
		sameWorld(t, fmt.Sprintf("%v of %+v", picks, before), impl.Run(w, picks), want)
		rounds := random.Intn(12)
		fair := runSlowly(w, fairPicks(rounds, len(w.Threads)))
		sameWorld(t, fmt.Sprintf("%d rounds of %+v", rounds, before), impl.Fair(w, int64(rounds)), fair)
		sameWorld(t, "what was handed in", impl.WorldOut{World: w}, impl.WorldOut{World: before})
		sameWorld(t, "a pick more", impl.Pick(want.World, 0), pickSlowly(want.World, 0))
		same(t, "ended", impl.Ended(want.World), worldRightSlowly(want.World) && !slices.ContainsFunc(want.World.Threads, func(th impl.Thread) bool { return !th.Done }))
		if t.Failed() {
			t.FailNow()
		}
		seen[fmt.Sprint("right ", worldRightSlowly(want.World))]++
		seen[fmt.Sprint("ended ", impl.Ended(want.World))]++
		seen[fmt.Sprint("locked ", want.World.Store.Lock != 0)]++
	}
	for _, what := range []string{"right true", "right false", "ended true", "ended false", "locked true", "locked false"} {
		if seen[what] < 30 {
			t.Errorf("%s came %d times alone", what, seen[what])
		}
	}
}

// byHand turns a new world into one that is right, but might never have come of picks, now and then.
func byHand(random *rand.Rand, w *impl.World) {
	if random.Intn(3) == 0 {
		return
	}
	if random.Intn(4) == 0 {
		w.Store = anyStore(random)
		w.Store.Lock = 0
	}
	if random.Intn(8) == 0 {
		g := &w.Store.Grant
		for no := int64(301); len(g.Keys) < 39 && len(g.Words) > 0; no++ {
			if !slices.ContainsFunc(g.Keys, func(k impl.Key) bool { return k.No == no }) {
				*g = with(*g, keys(impl.Key{No: no, Client: 1, Fam: g.Words[0].No}))
			}
		}
	}
	for i := range w.Threads {
		th := &w.Threads[i]
		switch random.Intn(6) {
		case 0:
			th.Pc, th.Ver, th.Till = int64(random.Intn(10)), int64(random.Intn(9)), int64(random.Intn(150))
		case 1:
			th.Pc = int64(random.Intn(3))
		case 2:
			w.Store.Lock = th.Req.No
		case 3:
			th.Done, th.Resp = random.Intn(2) == 0, impl.Resp{Code: 3}
		}
		if random.Intn(6) == 0 {
			w.Log = append(w.Log, begun(int64(i)))
			if random.Intn(2) == 0 {
				w.Log = append(w.Log, returned(int64(i), impl.Resp{Code: 4}))
			}
		}
	}
	if !worldRightSlowly(*w) {
		panic(fmt.Sprintf("%+v", *w))
	}
}

// wholeWorld is all of w, and what stands behind each of its lists, as a text.
func wholeWorld(w impl.World) string {
	first := whole(impl.Store{Grant: w.First})
	return fmt.Sprint(first, whole(w.Store), w.Threads[:cap(w.Threads)], w.Log[:cap(w.Log)])
}

// spoilWorld overwrites all that the lists of w hold.
func spoilWorld(w impl.World) {
	spoil(impl.Store{Grant: w.First})
	spoil(w.Store)
	for i := range w.Threads {
		w.Threads[i] = impl.Thread{Pc: -1}
	}
	for i := range w.Log {
		w.Log[i] = impl.Event{Thread: -1}
	}
}

// P6: an answer is new memory, no two lists of it share any, and what is handed in is not changed, nor anything behind it.
func TestWorldsAreNew(t *testing.T) {
	random := rand.New(rand.NewSource(25))
	for range 500 {
		w := anyWorld(random, 1+random.Intn(impl.MaxThreads))
		byHand(random, &w)
		w.First = withRoom(impl.Store{Grant: w.First}).Grant
		w.Store = withRoom(w.Store)
		w.Threads, w.Log = slices.Grow(w.Threads, 4), slices.Grow(w.Log, 4)
		before := wholeWorld(w)
		picks := slices.Grow([]int64{0, int64(len(w.Threads) - 1), 7, 0, 0}, 4)
		reqs := slices.Grow(reqsOf(w), 4)
		outs := []impl.WorldOut{
			impl.WorldNew(w.First, reqs), impl.WorldNew(w.First, reqs), impl.Pick(w, 0), impl.Pick(w, 0), impl.Run(w, picks),
			impl.Run(w, nil), impl.Run(w, nil), impl.Fair(w, 0), impl.Fair(w, 2), impl.Pick(world(w, allDone), 0),
		}
		var wants []impl.World
		for _, out := range outs {
			wants = append(wants, worldCopy(out.World))
		}
		for i, out := range outs {
			sameWorld(t, "answers that share", out, impl.WorldOut{World: wants[i]})
			// The lists of one answer do not share either: First alone is spoilt here.
			spoil(impl.Store{Grant: out.World.First})
			same(t, "lists that share", sameStores(out.World.Store, wants[i].Store), true)
			spoilWorld(out.World)
		}
		same(t, "what was handed in", wholeWorld(w), before)
		same(t, "the picks", fmt.Sprint(picks[:cap(picks)][:5]), fmt.Sprint([]int64{0, int64(len(w.Threads) - 1), 7, 0, 0}))
		same(t, "the requests", slices.Equal(reqs, reqsOf(w)), true)
	}
}

// P6: no text of an answer is that of an argument, or another one of it.
func TestWorldTextsAreNew(t *testing.T) {
	text := string([]byte("abcdefgh"))
	g := impl.Grant{Words: []impl.Word{{No: 1, Client: 1, Shade: text}}}
	r := issue(30, 1, text)
	w := impl.World{First: g, Store: impl.Store{Grant: g}, Threads: []impl.Thread{{Req: r}, {Req: redeem(31, 1, 1, text), Pc: 5}}}
	for what, out := range map[string]impl.WorldOut{
		"new": impl.WorldNew(g, []impl.Req{r}), "a pick": impl.Pick(w, 0), "another pick": impl.Pick(w, 1), "done": impl.Pick(world(w, allDone), 0),
		"no picks": impl.Run(w, nil), "a run": impl.Run(w, []int64{0, 0, 1, 1}), "no rounds": impl.Fair(w, 0), "rounds": impl.Fair(w, 9),
	} {
		same(t, what, out.Code, int64(impl.OK))
		texts := []string{text}
		for _, word := range slices.Concat(out.World.First.Words, out.World.Store.Grant.Words) {
			texts = append(texts, word.Shade)
		}
		for _, th := range out.World.Threads {
			texts = append(texts, th.Req.Proof)
		}
		for i := range texts {
			for j := range i {
				same(t, fmt.Sprint(what, ", text ", j, " and ", i), shares(texts[i], texts[j]), false)
			}
		}
	}
}

// P6: the same is told to many who ask about one world at the same time, again and again.
func TestWorldsAtOnce(t *testing.T) {
	w := worldOf(sixReqs()...)
	picks := []int64{0, 3, 1, 4, 5, 2, 5, 4, 3, 1, 0, 1, 3, 3, 2, 2, 4, 4, 4, 5}
	run, fair := runSlowly(w, picks), runSlowly(w, fairPicks(30, 6))
	for i := range 20 {
		t.Run(fmt.Sprintf("reader %d", i), func(t *testing.T) {
			t.Parallel()
			for range 20 {
				sameWorld(t, "run", impl.Run(w, picks), run)
				sameWorld(t, "rounds", impl.Fair(w, 30), fair)
				sameWorld(t, "a pick", impl.Pick(run.World, 3), pickSlowly(run.World, 3))
			}
		})
	}
}

// P6: nobody is left at work when an answer is told.
func TestNobodyIsLeftAtWork(t *testing.T) {
	before := runtime.NumGoroutine()
	w := worldOf(sixReqs()...)
	for range 100 {
		impl.WorldNew(w.First, reqsOf(w))
		impl.Pick(w, 0)
		impl.Run(w, []int64{0, 3, 9, 3, 3})
		impl.Fair(w, 60)
		impl.WorldRight(w)
		impl.Ended(w)
	}
	// One that told that it is done may still be on its way out.
	for range 100 {
		if runtime.NumGoroutine() <= before {
			return
		}
		time.Sleep(20 * time.Millisecond)
	}
	t.Errorf("%d are at work, and %d were ahead", runtime.NumGoroutine(), before)
}
