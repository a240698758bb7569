package tests

import (
	"fmt"
	"math/rand"
	"slices"
	"testing"

	"loop.example/g00842/impl"
)

// sameWorlds tells whether two worlds are alike; an empty list and none are the same.
func sameWorlds(a, b impl.World) bool {
	return sameGrant(a.First, b.First) && sameStores(a.Store, b.Store) && slices.Equal(a.Threads, b.Threads) && slices.Equal(a.Log, b.Log)
}

// sameWorld fails the test where got is not want.
func sameWorld(t *testing.T, what string, got, want impl.WorldOut) {
	t.Helper()
	if got.Code != want.Code || !sameWorlds(got.World, want.World) {
		t.Errorf("%s:\n got %+v\nwant %+v", what, got, want)
	}
}

// worldCopy is w in memory of its own.
func worldCopy(w impl.World) impl.World {
	return impl.World{First: copyOf(w.First), Store: storeCopy(w.Store), Threads: slices.Clone(w.Threads), Log: slices.Clone(w.Log)}
}

// world is a copy of w that is changed by all of these.
func world(w impl.World, changes ...func(*impl.World)) impl.World {
	w = worldCopy(w)
	for _, change := range changes {
		change(&w)
	}
	return w
}

// first changes First.
func first(changes ...func(*impl.Grant)) func(*impl.World) {
	return func(w *impl.World) { w.First = with(w.First, changes...) }
}

// kept changes Store.
func kept(changes ...func(*impl.Store)) func(*impl.World) {
	return func(w *impl.World) { w.Store = store(w.Store, changes...) }
}

// thread changes the thread at that place.
func thread(at int, change func(*impl.Thread)) func(*impl.World) {
	return func(w *impl.World) { change(&w.Threads[at]) }
}

// threads sets Threads, to those of these requests.
func threads(l ...impl.Req) func(*impl.World) {
	return func(w *impl.World) {
		w.Threads = nil
		for _, r := range l {
			w.Threads = append(w.Threads, impl.Thread{Req: r})
		}
	}
}

// logged puts these behind Log.
func logged(l ...impl.Event) func(*impl.World) {
	return func(w *impl.World) { w.Log = append(w.Log, l...) }
}

// begun and returned are events.
func begun(at int64) impl.Event { return impl.Event{Thread: at} }

func returned(at int64, resp impl.Resp) impl.Event {
	return impl.Event{Thread: at, Return: true, Resp: resp}
}

// done sets the thread at that place to be done, told that.
func done(at int, resp impl.Resp) func(*impl.World) {
	return thread(at, func(th *impl.Thread) { th.Resp, th.Done = resp, true })
}

// ahead sets the step of the thread at that place.
func ahead(at int, pc int64) func(*impl.World) {
	return thread(at, func(th *impl.Thread) { th.Pc = pc })
}

// sixReqs is requests of mixed kinds, of which none has a number of twoCached: two want one word, two one key, one asks for
// what another one takes.
func sixReqs() []impl.Req {
	return []impl.Req{redeem(1, 2, 20, "xyz"), refresh(2, 1, 52), ask(3, 1, 53), redeem(4, 2, 20, "xyz"), refresh(6, 1, 52), revoke(8, 1, 53)}
}

// worldOf is the new world of these requests on the grant of twoCached.
func worldOf(l ...impl.Req) impl.World {
	g := twoCached().Grant
	return world(impl.World{First: g, Store: impl.Store{Grant: g}}, threads(l...))
}

// worldRightSlowly is what WorldRight has to tell, told in another way.
func worldRightSlowly(w impl.World) bool {
	n := len(w.Threads)
	ok := rightSlowly(w.First) && storeRightSlowly(w.Store) && n >= 1 && n <= 6 && len(w.Log) <= 12
	ok = ok && len(w.First.Words)+n <= 20 && len(w.First.Keys)+2*n <= 40
	nos := map[int64]bool{0: true}
	for _, th := range w.Threads {
		ok = ok && writeReqSlowly(th.Req) != "" && th.Pc >= 0 && th.Pc < 10 && min(th.Ver, th.Till) >= 0 && max(th.Ver, th.Till) <= 1000000
		ok = ok && !nos[th.Req.No]
		nos[th.Req.No] = true
	}
	for _, word := range w.First.Words {
		ok = ok && !nos[word.No]
	}
	for _, k := range w.First.Keys {
		ok = ok && !(k.No > 10 && nos[k.No/10] && (k.No%10 == 1 || k.No%10 == 2))
	}
	return ok && nos[w.Store.Lock] && logRightSlowly(w.Log, n)
}

// logRightSlowly tells whether l might be the log of that many threads.
func logRightSlowly(l []impl.Event, many int) bool {
	seen := map[int64]string{}
	for _, e := range l {
		if e.Return {
			seen[e.Thread] += "return "
		} else {
			seen[e.Thread] += fmt.Sprintf("begin %v ", e.Resp == impl.Resp{})
		}
	}
	for at, what := range seen {
		if at < 0 || at >= int64(many) || what != "begin true " && what != "begin true return " {
			return false
		}
	}
	return true
}

// pickSlowly is what Pick has to tell, told in another way.
func pickSlowly(w impl.World, at int64) impl.WorldOut {
	if !worldRightSlowly(w) {
		return impl.WorldOut{Code: impl.ErrForm}
	}
	if at < 0 || at >= int64(len(w.Threads)) {
		return impl.WorldOut{Code: impl.ErrNone}
	}
	w = worldCopy(w)
	if w.Threads[at].Done {
		return impl.WorldOut{World: w}
	}
	if !slices.ContainsFunc(w.Log, func(e impl.Event) bool { return e.Thread == at && !e.Return }) {
		w.Log = append(w.Log, begun(at))
	}
	out := stepSlowly(w.Store, w.Threads[at])
	w.Store, w.Threads[at] = out.Store, out.Thread
	if out.Thread.Done {
		w.Log = append(w.Log, returned(at, out.Thread.Resp))
	}
	return impl.WorldOut{World: w}
}

// runSlowly is what Run has to tell, told in another way.
func runSlowly(w impl.World, picks []int64) impl.WorldOut {
	if len(picks) > 400 {
		return impl.WorldOut{Code: impl.ErrSize}
	}
	if !worldRightSlowly(w) {
		return impl.WorldOut{Code: impl.ErrForm}
	}
	for _, at := range picks {
		if out := pickSlowly(w, at); out.Code == impl.OK {
			w = out.World
		}
	}
	return impl.WorldOut{World: w}
}

// fairPicks is so many rounds of picks of that many threads.
func fairPicks(rounds, many int) []int64 {
	var l []int64
	for range rounds {
		for at := range many {
			l = append(l, int64(at))
		}
	}
	return l
}

// picked fails the test where of w and at not that comes, of Pick and of Run, or where w is changed by that.
func picked(t *testing.T, what string, w impl.World, at int64, want impl.World) {
	t.Helper()
	before := worldCopy(w)
	sameWorld(t, what, impl.Pick(w, at), impl.WorldOut{World: want})
	sameWorld(t, what+", run", impl.Run(w, []int64{at}), impl.WorldOut{World: want})
	sameWorld(t, what+", what was handed in", impl.WorldOut{World: w}, impl.WorldOut{World: before})
	sameWorld(t, what+", told in another way", pickSlowly(w, at), impl.WorldOut{World: want})
}

// orderFinder looks for an order in which all would be told, one after the other, what they were told.
type orderFinder struct {
	reqs []impl.Req
	// The places of their events in the log, and what they were told: below 0, where there is none.
	began, ended []int
	told         []impl.Resp
}

// orderOf is the first order, by the places of the requests, in which GrantDo tells each one that returned just what it
// returned, and in which whoever returned ahead of another one's beginning stands ahead of it; and whether there is one.
func orderOf(g impl.Grant, l []impl.Req, log []impl.Event) ([]int, bool) {
	f := orderFinder{reqs: l, told: make([]impl.Resp, len(l))}
	for range l {
		f.began, f.ended = append(f.began, -1), append(f.ended, -1)
	}
	for i, e := range log {
		if e.Return {
			f.ended[e.Thread], f.told[e.Thread] = i, e.Resp
		} else {
			f.began[e.Thread] = i
		}
	}
	return f.from(g, nil)
}

// from is an order that begins so, after which g is left.
func (f orderFinder) from(g impl.Grant, order []int) ([]int, bool) {
	all := true
	for i := range f.reqs {
		all = all && (f.ended[i] < 0 || slices.Contains(order, i))
	}
	if all {
		return order, true
	}
	for i, r := range f.reqs {
		if f.began[i] < 0 || slices.Contains(order, i) || f.mustWait(i, order) {
			continue
		}
		out := impl.GrantDo(g, r)
		if f.ended[i] >= 0 && out.Resp != f.told[i] {
			continue
		}
		if l, ok := f.from(out.Grant, append(slices.Clone(order), i)); ok {
			return l, true
		}
	}
	return nil, false
}

// mustWait tells whether someone who is not in the order yet returned ahead of that one's beginning.
func (f orderFinder) mustWait(i int, order []int) bool {
	for j := range f.reqs {
		if j != i && f.ended[j] >= 0 && f.ended[j] < f.began[i] && !slices.Contains(order, j) {
			return true
		}
	}
	return false
}

// reqsOf is what the threads of w serve.
func reqsOf(w impl.World) []impl.Req {
	var l []impl.Req
	for _, th := range w.Threads {
		l = append(l, th.Req)
	}
	return l
}

// asIfInOrder fails the test where there is no order for what was told in w, where Linear and Order do not tell so, where two
// won one word, where w is not right, or where what its cache holds is not honest.
func asIfInOrder(t *testing.T, w impl.World) {
	t.Helper()
	l := reqsOf(w)
	order, ok := orderOf(w.First, l, w.Log)
	if !ok || !impl.Linear(w.First, l, w.Log) {
		t.Errorf("no order of %+v", w)
	}
	samePlace := func(at int64, want int) bool { return at == int64(want) }
	if got := impl.Order(w.First, l, w.Log); !slices.EqualFunc(got, order, samePlace) {
		t.Errorf("not the order %v, but %v, of %+v", order, got, w)
	}
	for _, r := range l {
		if n := impl.Winners(l, w.Log, r.Code); n > 1 {
			t.Errorf("%d won %d: %+v", n, r.Code, w)
		}
	}
	if !impl.WorldRight(w) || !worldRightSlowly(w) || !impl.StoreRight(w.Store) || !impl.Honest(w.Store) || !honestSlowly(w.Store) {
		t.Errorf("not right, or not honest: %+v", w)
	}
}

// anyWish is a request of that number, about what worldOf has, or what those of the numbers others are given.
func anyWish(random *rand.Rand, no int64, others []int64) impl.Req {
	other := others[random.Intn(len(others))]
	mine := []int64{51, 51, 52, 52, 53, 71, 10*other + 1, 10*other + 1, 10*other + 2}[random.Intn(9)]
	client := int64(1 + random.Intn(2))
	if mine == 71 {
		client = 2
	} else if mine < 60 && random.Intn(8) > 0 {
		client = 1
	}
	switch random.Intn(9) {
	case 0:
		return issue(no, client, "ba")
	case 1, 2:
		return []impl.Req{redeem(no, 1, 10, "ab"), redeem(no, 2, 20, "xyz"), redeem(no, 2, 20, "xyz"), redeem(no, client, other, "ab")}[random.Intn(4)]
	case 3, 4:
		return refresh(no, client, []int64{52, 52, 10*other + 2}[random.Intn(3)])
	case 5:
		return revoke(no, client, mine)
	case 6, 7:
		return ask(no, client, mine)
	}
	return tick(no, []int64{1, 3, 4, 20, 21, 40, 41, 60, 300}[random.Intn(9)])
}

// anyWorld is a world of that many threads, of which none has begun, that all are about the same few words and keys.
func anyWorld(random *rand.Rand, many int) impl.World {
	nos := []int64{1, 2, 3, 4, 6, 8, 9}
	random.Shuffle(len(nos), func(i, j int) { nos[i], nos[j] = nos[j], nos[i] })
	var l []impl.Req
	for i := range many {
		// Those that are not among the threads are named too, now and then.
		l = append(l, anyWish(random, nos[i], nos[:many+random.Intn(2)]))
	}
	w := worldOf(l...)
	for _, change := range []func(*impl.Grant){used(1), state(1, 1), state(0, 2), dead(10), atTime(103), atTime(119), atTime(140)} {
		if random.Intn(7) == 0 {
			w.First = with(w.First, change)
		}
	}
	w.Store.Grant = copyOf(w.First)
	// None is cached of a version that is still to come.
	if random.Intn(2) == 0 {
		w.Store = honestPart(store(w.Store, version([]int64{6, 8}[random.Intn(2)]), cache(twoCached().Cache...)))
	}
	return w
}

// anyPicks tells which thread comes next, again and again: each, or the same one some times, or one less often than others.
func anyPicks(random *rand.Rand, many int) func() int64 {
	same, late, last := random.Intn(6), random.Intn(many), 0
	return func() int64 {
		if random.Intn(6) >= same {
			last = random.Intn(many)
		}
		if last == late && random.Intn(3) > 0 {
			last = random.Intn(many)
		}
		return int64(last)
	}
}
