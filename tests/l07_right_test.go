package tests

import (
	"fmt"
	"math"
	"math/rand"
	"testing"

	"loop.example/g00842/impl"
)

// sameWorldRight fails the test where w is not told to be right, or not, by all that ask.
func sameWorldRight(t *testing.T, what string, w impl.World, want bool) {
	t.Helper()
	before := worldCopy(w)
	same(t, what, impl.WorldRight(w), want)
	same(t, what+", told in another way", worldRightSlowly(w), want)
	if want {
		sameWorld(t, what+", no picks", impl.Run(w, nil), impl.WorldOut{World: w})
		sameWorld(t, what+", a pick", impl.Pick(w, 0), pickSlowly(w, 0))
		sameWorld(t, what+", a round", impl.Fair(w, 1), runSlowly(w, fairPicks(1, len(w.Threads))))
	} else {
		wrong := impl.WorldOut{Code: impl.ErrForm}
		for _, at := range []int64{0, 1, -1, 6, math.MaxInt64} {
			sameWorld(t, what+", a pick", impl.Pick(w, at), wrong)
		}
		sameWorld(t, what+", a run", impl.Run(w, []int64{0, 1}), wrong)
		sameWorld(t, what+", no picks", impl.Run(w, nil), wrong)
		sameWorld(t, what+", too many picks", impl.Run(w, make([]int64, impl.MaxList+1)), impl.WorldOut{Code: impl.ErrSize})
		sameWorld(t, what+", rounds", impl.Fair(w, 20), wrong)
		sameWorld(t, what+", no rounds", impl.Fair(w, 0), wrong)
		same(t, what+", ended", impl.Ended(w), false)
	}
	sameWorld(t, what+", what was handed in", impl.WorldOut{World: w}, impl.WorldOut{World: before})
}

// allDone sets all threads to be done.
func allDone(w *impl.World) {
	for i := range w.Threads {
		w.Threads[i].Done = true
	}
}

// P6: worlds that are right, of one to six threads, new and on their way.
func TestWorldRight(t *testing.T) {
	for n := 1; n <= impl.MaxThreads; n++ {
		w := worldOf(sixReqs()[:n]...)
		what := fmt.Sprint(n, " threads")
		sameWorldRight(t, what, w, true)
		sameWorldRight(t, what+", on their way", impl.Fair(w, 3).World, true)
		sameWorldRight(t, what+", done", impl.Fair(w, 60).World, true)
		sameWorldRight(t, what+", done, without a log", world(w, allDone), true)
	}
	for text, r := range rightReqs() {
		sameWorldRight(t, text, world(impl.World{}, threads(r)), true)
		for pc := range int64(10) {
			sameWorldRight(t, fmt.Sprint(text, " at ", pc), world(impl.World{}, threads(r), ahead(0, pc)), true)
		}
	}
	w := worldOf(sixReqs()...)
	other := store(twoCached(), granted(atTime(500), dead(10, 20), words(impl.Word{No: 1, Client: 1, Shade: "a"}), keys(impl.Key{No: 11, Client: 1, Fam: 1})))
	sameWorldRight(t, "another store", world(w, kept(func(s *impl.Store) { *s = other })), true)
	sameWorldRight(t, "nothing in the store", world(w, kept(func(s *impl.Store) { *s = impl.Store{} })), true)
	sameWorldRight(t, "nothing in First", world(w, first(func(g *impl.Grant) { *g = impl.Grant{} })), true)
	sameWorldRight(t, "not honest", world(w, kept(cache(impl.Entry{Token: 999, Client: 3}))), true)
	sameWorldRight(t, "empty lists", world(w, func(w *impl.World) { w.Log = []impl.Event{} }), true)
}

// wrongThreads is threads that are not right, each in another part.
func wrongThreads() map[string]impl.Thread {
	r := ask(3, 1, 53)
	return map[string]impl.Thread{
		"zero":                   {},
		"no right request":       {Req: ask(0, 1, 53)},
		"a request of No 100":    {Req: ask(100, 1, 53)},
		"a request of no kind":   {Req: impl.Req{No: 3, Kind: 7, Client: 1, Token: 53}},
		"a request with more":    {Req: impl.Req{No: 3, Kind: impl.RqAsk, Client: 1, Token: 53, By: 1}},
		"Pc below 0":             {Req: r, Pc: -1},
		"Pc 10":                  {Req: r, Pc: 10},
		"Ver below 0":            {Req: r, Ver: -1},
		"Ver above MaxTime":      {Req: r, Ver: impl.MaxTime + 1},
		"Till below 0":           {Req: r, Till: -1},
		"Till above MaxTime":     {Req: r, Till: impl.MaxTime + 1},
		"Pc far off, and done":   {Req: r, Pc: math.MinInt64, Done: true},
		"done, no right request": {Done: true},
	}
}

// P6: a world with one part that is not right is not.
func TestWorldWrong(t *testing.T) {
	w := worldOf(sixReqs()[:5]...)
	sameWorldRight(t, "nothing", impl.World{}, false)
	for what, s := range wrongStores() {
		sameWorldRight(t, "a store: "+what, world(w, kept(func(old *impl.Store) { *old = s })), false)
	}
	for what, change := range map[string]func(*impl.Grant){
		"Now":           atTime(impl.MaxTime + 1),
		"a word turned": func(g *impl.Grant) { g.Words[0], g.Words[1] = g.Words[1], g.Words[0] },
		"a Client":      func(g *impl.Grant) { g.Words[0].Client = 4 },
		"a State":       state(1, 2),
		"Dead":          dead(11),
	} {
		sameWorldRight(t, "First: "+what, world(w, first(change)), false)
		sameWorldRight(t, "the grant of the store: "+what, world(w, kept(granted(change))), false)
	}
	for what, th := range wrongThreads() {
		for at := range w.Threads {
			sameWorldRight(t, fmt.Sprint("a thread at ", at, ": ", what), world(w, thread(at, func(old *impl.Thread) { *old = th })), false)
		}
		sameWorldRight(t, "one thread: "+what, impl.World{Threads: []impl.Thread{th}}, false)
	}
}

// P6: there is one thread at least, and MaxThreads at most; no two are of one No.
func TestWorldThreads(t *testing.T) {
	w := worldOf()
	sameWorldRight(t, "no thread", w, false)
	sameWorldRight(t, "no thread, an empty list", world(w, func(w *impl.World) { w.Threads = []impl.Thread{} }), false)
	seven := append(sixReqs(), tick(9, 1))
	sameWorldRight(t, "six threads", worldOf(seven[1:]...), true)
	sameWorldRight(t, "seven threads", worldOf(seven...), false)
	sameWorldRight(t, "seven threads, on nothing", world(impl.World{}, threads(seven...)), false)
	var many []impl.Req
	for no := range int64(99) {
		many = append(many, tick(no+1, 1))
	}
	for _, n := range []int{7, 8, 20, 99} {
		sameWorldRight(t, fmt.Sprint(n, " threads"), world(impl.World{}, threads(many[:n]...)), false)
	}
	for j := range 6 {
		for i := range j {
			l := sixReqs()
			l[j].No = l[i].No
			what := fmt.Sprint(j, " of the No of ", i)
			sameWorldRight(t, what, worldOf(l...), false)
			sameWorldRight(t, what+", done", world(worldOf(l...), allDone), false)
			l[j] = l[i]
			sameWorldRight(t, what+", just the same", worldOf(l...), false)
			sameWorld(t, what+", new", impl.WorldNew(twoCached().Grant, l), impl.WorldOut{Code: impl.ErrForm})
		}
	}
}

// P6: what a thread would be given is not in First yet, whatever it asks for, at whatever place; what is in the store is not asked.
func TestWorldNumbersFree(t *testing.T) {
	for at := range 6 {
		for _, r := range rightReqs() {
			for _, no := range []int64{1, 5, 9, 90, 99} {
				l := []impl.Req{tick(91, 1), tick(92, 1), tick(93, 1), tick(94, 1), tick(95, 1), tick(96, 1)}
				l[at] = r
				l[at].No = no
				base := world(impl.World{}, threads(l...), first(words(impl.Word{No: 50, Client: 1, Shade: "a"})))
				what := fmt.Sprint(named(l[at]), " at ", at)
				sameWorldRight(t, what, base, true)
				word := words(impl.Word{No: no, Client: 1, Shade: "a"})
				sameWorldRight(t, what+", its word", world(base, first(word)), false)
				sameWorldRight(t, what+", its word in the store", world(base, kept(granted(word))), true)
				for _, k := range []int64{0, 1, 2, 3, 9} {
					key := keys(impl.Key{No: 10*no + k, Client: 3, Fam: 50, State: 1})
					sameWorldRight(t, fmt.Sprint(what, ", key ", 10*no+k), world(base, first(key)), k != 1 && k != 2)
					sameWorldRight(t, fmt.Sprint(what, ", key ", 10*no+k, " in the store"), world(base, kept(granted(words(impl.Word{No: 50, Client: 1, Shade: "a"}), key))), true)
				}
				sameWorldRight(t, what+", key of its No", world(base, first(keys(impl.Key{No: no, Client: 1, Fam: 50}))), true)
			}
		}
	}
}

// P6: First has room for a word and two keys of each thread, whatever these ask for; how much the store has is not asked.
func TestWorldRoom(t *testing.T) {
	for n := 1; n <= impl.MaxThreads; n++ {
		var l []impl.Req
		for i := range n {
			l = append(l, tick(int64(90+i), 1))
		}
		for more := -1; more <= 1; more++ {
			what := fmt.Sprint(n, " threads, ", more, " more")
			g := impl.Grant{Words: manyWords(impl.MaxCodes - n + more)}
			base := world(impl.World{}, threads(l...))
			sameWorldRight(t, "words, "+what, world(base, first(func(first *impl.Grant) { *first = g })), more <= 0)
			g = impl.Grant{Words: manyWords(1), Keys: manyKeys(impl.MaxKeys - 2*n + more)}
			sameWorldRight(t, "keys, "+what, world(base, first(func(first *impl.Grant) { *first = g })), more <= 0)
			got := impl.WorldNew(g, l)
			same(t, "keys, new, "+what, got.Code == impl.OK, more <= 0)
			g = impl.Grant{Words: manyWords(impl.MaxCodes), Keys: manyKeys(impl.MaxKeys)}
			sameWorldRight(t, "in the store, "+what, world(base, kept(granted(func(kept *impl.Grant) { *kept = g }))), true)
		}
	}
}

// P6: nobody has the lock, or one of the threads, whatever it does.
func TestWorldLock(t *testing.T) {
	w := worldOf(sixReqs()[:5]...)
	nos := map[int64]bool{0: true}
	for _, th := range w.Threads {
		nos[th.Req.No] = true
	}
	for lock := int64(-1); lock <= 100; lock++ {
		sameWorldRight(t, fmt.Sprint("locked by ", lock), world(w, kept(locked(lock))), nos[lock])
		sameWorldRight(t, fmt.Sprint("locked by ", lock, ", done"), world(w, kept(locked(lock)), allDone), nos[lock])
	}
}

// P6: each thread begins once at most, with nothing told, and returns once at most, behind that.
func TestWorldLog(t *testing.T) {
	w := worldOf(sixReqs()[:3]...)
	told := impl.Resp{Code: 5, Token: -6, Next: 7, Yes: true}
	for what, c := range map[string]struct {
		log   []impl.Event
		right bool
	}{
		"none":                               {nil, true},
		"one begins":                         {[]impl.Event{begun(2)}, true},
		"all begin":                          {[]impl.Event{begun(2), begun(0), begun(1)}, true},
		"one returns":                        {[]impl.Event{begun(0), returned(0, told)}, true},
		"one returns, told nothing":          {[]impl.Event{begun(0), returned(0, impl.Resp{})}, true},
		"all return":                         {[]impl.Event{begun(1), begun(0), returned(0, told), begun(2), returned(2, told), returned(1, told)}, true},
		"a thread that there is not":         {[]impl.Event{begun(3)}, false},
		"a thread below 0":                   {[]impl.Event{begun(-1)}, false},
		"a thread far off":                   {[]impl.Event{begun(math.MaxInt64)}, false},
		"a thread far below":                 {[]impl.Event{begun(math.MinInt64)}, false},
		"a thread of MaxThreads":             {[]impl.Event{begun(impl.MaxThreads)}, false},
		"one returns that there is not":      {[]impl.Event{begun(0), returned(3, told)}, false},
		"begins twice":                       {[]impl.Event{begun(0), begun(0)}, false},
		"begins twice, another one between":  {[]impl.Event{begun(0), begun(1), begun(0)}, false},
		"begins again when it returned":      {[]impl.Event{begun(0), returned(0, told), begun(0)}, false},
		"returns twice":                      {[]impl.Event{begun(0), returned(0, told), returned(0, told)}, false},
		"returns twice, others between":      {[]impl.Event{begun(0), returned(0, told), begun(1), returned(1, told), returned(0, told)}, false},
		"returns without a beginning":        {[]impl.Event{returned(0, told)}, false},
		"returns ahead of its beginning":     {[]impl.Event{returned(0, told), begun(0)}, false},
		"returns where another one began":    {[]impl.Event{begun(1), returned(0, told)}, false},
		"begins with a Code":                 {[]impl.Event{{Thread: 0, Resp: impl.Resp{Code: 1}}}, false},
		"begins with a Token":                {[]impl.Event{{Thread: 0, Resp: impl.Resp{Token: 1}}}, false},
		"begins with a Next":                 {[]impl.Event{{Thread: 0, Resp: impl.Resp{Next: 1}}}, false},
		"begins with Yes":                    {[]impl.Event{{Thread: 0, Resp: impl.Resp{Yes: true}}}, false},
		"the last one begins with something": {[]impl.Event{begun(0), returned(0, told), {Thread: 1, Resp: told}}, false},
	} {
		sameWorldRight(t, what, world(w, logged(c.log...)), c.right)
		sameWorldRight(t, what+", done", world(w, allDone, logged(c.log...)), c.right)
	}
}

// P6: a log has twelve events at most.
func TestWorldLogLength(t *testing.T) {
	w := worldOf(sixReqs()...)
	for at := range int64(6) {
		w.Log = append(w.Log, begun(at))
	}
	for at := range int64(6) {
		w.Log = append(w.Log, returned(5-at, impl.Resp{Code: at}))
	}
	sameWorldRight(t, "twelve", world(w, allDone), true)
	for at := int64(-1); at <= 6; at++ {
		for _, e := range []impl.Event{begun(at), returned(at, impl.Resp{})} {
			sameWorldRight(t, fmt.Sprintf("one more: %+v", e), world(w, allDone, logged(e)), false)
			sameWorldRight(t, fmt.Sprintf("one more, of five threads: %+v", e), world(w, func(w *impl.World) { w.Threads = w.Threads[:5] }, logged(e)), false)
		}
	}
	sameWorldRight(t, "twelve, of five threads", world(w, func(w *impl.World) { w.Threads = w.Threads[:5] }), false)
	sameWorldRight(t, "far too many", world(w, logged(make([]impl.Event, impl.MaxList)...)), false)
}

// P6: a new world has the grant twice, and each thread at its beginning; nothing has begun.
func TestWorldNew(t *testing.T) {
	for n := 1; n <= impl.MaxThreads; n++ {
		g := with(twoCached().Grant, dead(10), atTime(77))
		l := sixReqs()[:n]
		want := world(impl.World{First: g, Store: impl.Store{Grant: g}}, threads(l...))
		sameWorld(t, fmt.Sprint(n, " threads"), impl.WorldNew(g, l), impl.WorldOut{World: want})
	}
	for text, r := range rightReqs() {
		want := world(impl.World{}, threads(r))
		sameWorld(t, text, impl.WorldNew(impl.Grant{}, []impl.Req{r}), impl.WorldOut{World: want})
		same(t, text+", right", impl.WorldRight(want), true)
	}
}

// P6: where the new world would not be right there is none; of too many requests the size is told ahead of all else.
func TestWorldNewWrong(t *testing.T) {
	g := twoCached().Grant
	six := sixReqs()
	for what, c := range map[string]struct {
		g    impl.Grant
		l    []impl.Req
		code int64
	}{
		"no request":                        {g, nil, impl.ErrForm},
		"an empty list":                     {g, []impl.Req{}, impl.ErrForm},
		"seven":                             {g, append(six[:6:6], tick(9, 1)), impl.ErrForm},
		"a grant that is not right":         {with(g, atTime(-1)), six, impl.ErrForm},
		"another one":                       {with(g, state(1, 2)), six, impl.ErrForm},
		"a zero request":                    {g, []impl.Req{{}}, impl.ErrForm},
		"a zero request behind others":      {g, append(six[:5:5], impl.Req{}), impl.ErrForm},
		"its word is there":                 {g, []impl.Req{ask(10, 1, 51)}, impl.ErrForm},
		"its key is there":                  {g, []impl.Req{ask(5, 1, 51)}, impl.ErrForm},
		"its key and 1 is there alone":      {g, []impl.Req{tick(7, 1)}, impl.ErrForm},
		"its key and 2 is there alone":      {with(g, keys(impl.Key{No: 92, Client: 1, Fam: 10})), []impl.Req{tick(9, 1)}, impl.ErrForm},
		"no room for words":                 {impl.Grant{Words: manyWords(20)}, []impl.Req{tick(90, 1)}, impl.ErrForm},
		"no room for keys":                  {impl.Grant{Words: manyWords(1), Keys: manyKeys(39)}, []impl.Req{tick(90, 1)}, impl.ErrForm},
		"MaxList of requests":               {g, make([]impl.Req, impl.MaxList), impl.ErrForm},
		"one more":                          {g, make([]impl.Req, impl.MaxList+1), impl.ErrSize},
		"one more, and no right grant":      {with(g, atTime(-1)), make([]impl.Req, impl.MaxList+1), impl.ErrSize},
		"MaxList, and no right grant":       {with(g, atTime(-1)), make([]impl.Req, impl.MaxList), impl.ErrForm},
		"one more, all of them right alone": {g, append(make([]impl.Req, impl.MaxList), tick(9, 1)), impl.ErrSize},
	} {
		sameWorld(t, what, impl.WorldNew(c.g, c.l), impl.WorldOut{Code: c.code})
	}
	for _, r := range wrongReqs() {
		sameWorld(t, named(r), impl.WorldNew(g, []impl.Req{r}), impl.WorldOut{Code: impl.ErrForm})
		sameWorld(t, named(r)+", behind another one", impl.WorldNew(g, []impl.Req{tick(9, 1), r}), impl.WorldOut{Code: impl.ErrForm})
	}
}

// P6: over worlds with one number turned, WorldRight tells what another one tells.
func TestWorldsTurned(t *testing.T) {
	random := rand.New(rand.NewSource(23))
	right := 0
	for range 8000 {
		w := anyWorld(random, 1+random.Intn(impl.MaxThreads))
		next := anyPicks(random, len(w.Threads))
		for range random.Intn(20) {
			w = pickSlowly(w, next()).World
		}
		turnWorld(random, &w)
		want := worldRightSlowly(w)
		if got := impl.WorldRight(w); got != want {
			t.Fatalf("got %t of %+v", got, w)
		}
		if want {
			right++
		}
		if random.Intn(8) == 0 {
			sameWorldRight(t, fmt.Sprintf("%+v", w), w, want)
		}
	}
	same(t, "both come", right > 1000 && right < 7000, true)
}

// turnWorld sets one number of w.
func turnWorld(random *rand.Rand, w *impl.World) {
	n := []int64{-1, 0, 1, 2, 3, 4, 6, 8, 9, 10, 11, 20, 99, 100, impl.MaxTime, impl.MaxTime + 1}[random.Intn(16)]
	switch random.Intn(5) {
	case 0:
		turnStore(random, &w.Store)
	case 1:
		turnOne(random, &w.First, n)
	case 2:
		th := &w.Threads[random.Intn(len(w.Threads))]
		*[]*int64{&th.Pc, &th.Ver, &th.Till, &th.Req.No, &th.Req.No, &th.Resp.Code}[random.Intn(6)] = n
	case 3:
		w.Log = append(w.Log, impl.Event{Thread: n, Return: random.Intn(2) == 0, Resp: impl.Resp{Code: int64(random.Intn(2))}})
	default:
		if len(w.Log) > 0 {
			e := &w.Log[random.Intn(len(w.Log))]
			*[]*int64{&e.Thread, &e.Resp.Code, &e.Resp.Token}[random.Intn(3)] = n
			e.Return = e.Return != (random.Intn(6) == 0)
		}
	}
}
