package tests

import (
	"fmt"
	"math"
	"testing"

	"loop.example/g00842/impl"
)

// manyToTry is how many threads there may be, and may not be.
func manyToTry() []int64 {
	return []int64{math.MinInt64, -1 << 32, -7, -1, 0, 1, 2, 3, 4, 5, 6, 7, 8, 12, 400, 1<<32 + 1, 1<<32 + 6, math.MaxInt64}
}

// sameLogRight fails the test where LogRight does not tell of l, for any number of threads, what the log of a right world tells.
func sameLogRight(t *testing.T, what string, l []impl.Event) {
	t.Helper()
	before := fmt.Sprint(l)
	for _, many := range manyToTry() {
		want := many >= 1 && many <= 6 && logRightSlowly(l, int(many))
		same(t, fmt.Sprint(what, ", ", many, " threads"), impl.LogRight(l, many), want)
		if many >= 1 && many <= 7 {
			w := worldOf(append(sixReqs(), tick(9, 1))[:many]...)
			same(t, fmt.Sprint(what, ", a world of ", many), impl.WorldRight(world(w, logged(l...))), want)
		}
	}
	same(t, what+", what was handed in", fmt.Sprint(l), before)
}

// P8: logs are right, or not, just as those of right worlds are, for 1 to MaxThreads threads.
func TestLogRight(t *testing.T) {
	told := impl.Resp{Code: 5, Token: -6, Next: 7, Yes: true}
	full := allBegun(6, returned(5, told), returned(0, impl.Resp{}), returned(4, told), returned(1, told), returned(3, told), returned(2, told))
	for what, c := range map[string]struct {
		log []impl.Event
		// How many threads there are at least; 0, if it is right for none.
		least int64
	}{
		"none":                                {nil, 1},
		"an empty list":                       {[]impl.Event{}, 1},
		"one begins":                          {[]impl.Event{begun(0)}, 1},
		"another one begins":                  {[]impl.Event{begun(1)}, 2},
		"the last one begins":                 {[]impl.Event{begun(5)}, 6},
		"one that there never is":             {[]impl.Event{begun(6)}, 0},
		"one below 0":                         {[]impl.Event{begun(-1)}, 0},
		"one far off":                         {[]impl.Event{begun(1 << 32)}, 0},
		"the farthest one":                    {[]impl.Event{begun(math.MaxInt64)}, 0},
		"the farthest one below":              {[]impl.Event{begun(math.MinInt64)}, 0},
		"returns":                             {[]impl.Event{begun(0), returned(0, told)}, 1},
		"returns with nothing told":           {[]impl.Event{begun(0), returned(0, impl.Resp{})}, 1},
		"two, one in the other":               {[]impl.Event{begun(0), begun(1), returned(1, told), returned(0, told)}, 2},
		"two, one after the other":            {[]impl.Event{begun(1), returned(1, told), begun(0), returned(0, told)}, 2},
		"begins twice":                        {[]impl.Event{begun(0), begun(0)}, 0},
		"begins twice, another one between":   {[]impl.Event{begun(0), begun(1), begun(0)}, 0},
		"begins again when it returned":       {[]impl.Event{begun(0), returned(0, told), begun(0)}, 0},
		"returns twice":                       {[]impl.Event{begun(0), returned(0, told), returned(0, told)}, 0},
		"returns twice, another one between":  {[]impl.Event{begun(0), returned(0, told), begun(1), returned(0, told)}, 0},
		"returns without a beginning":         {[]impl.Event{returned(0, told)}, 0},
		"returns ahead of its beginning":      {[]impl.Event{returned(0, told), begun(0)}, 0},
		"returns where another one began":     {[]impl.Event{begun(1), returned(0, told)}, 0},
		"one returns that there is not":       {[]impl.Event{begun(0), returned(6, told)}, 0},
		"begins with a Code":                  {[]impl.Event{{Resp: impl.Resp{Code: 1}}}, 0},
		"begins with a Token":                 {[]impl.Event{{Resp: impl.Resp{Token: 1}}}, 0},
		"begins with a Next":                  {[]impl.Event{{Resp: impl.Resp{Next: 1}}}, 0},
		"begins with Yes":                     {[]impl.Event{{Resp: impl.Resp{Yes: true}}}, 0},
		"the last one begins with something":  {[]impl.Event{begun(0), returned(0, told), {Thread: 1, Resp: told}}, 0},
		"twelve events":                       {full, 6},
		"thirteen events":                     {append(full[:12:12], begun(0)), 0},
		"thirteen events, a return":           {append(full[:12:12], returned(3, told)), 0},
		"thirteen events, of one more":        {append(full[:12:12], begun(6)), 0},
		"thirteen events, of one below 0":     {append(full[:12:12], begun(-1)), 0},
		"MaxList of events":                   {make([]impl.Event, impl.MaxList), 0},
		"one more":                            {make([]impl.Event, impl.MaxList+1), 0},
		"one more, of which the first are so": {append(full[:12:12], make([]impl.Event, impl.MaxList-11)...), 0},
		"one more, of which the last are so":  {append(make([]impl.Event, impl.MaxList-11), full...), 0},
		"far too many":                        {make([]impl.Event, 10000), 0},
		"six begin, of which none returns":    {allBegun(6), 6},
		"seven begin":                         {allBegun(7), 0},
		"five begin, and the sixth returns":   {allBegun(5, returned(5, told)), 0},
		"one returns, another one began":      {[]impl.Event{begun(2), begun(4), returned(4, told)}, 5},
	} {
		sameLogRight(t, what, c.log)
		for many := int64(-1); many <= 8; many++ {
			want := c.least > 0 && many >= c.least && many <= 6
			same(t, fmt.Sprint(what, ", of ", many), impl.LogRight(c.log, many), want)
		}
	}
}

// P8: of all logs of up to four events of few threads, just those are right that another one tells.
func TestLogRightOfShortLogs(t *testing.T) {
	var kinds []impl.Event
	for at := int64(-1); at <= 2; at++ {
		kinds = append(kinds, begun(at), returned(at, impl.Resp{Yes: true}))
	}
	kinds = append(kinds, impl.Event{Resp: impl.Resp{Yes: true}}, returned(0, impl.Resp{}))
	right := 0
	var from func(l []impl.Event)
	from = func(l []impl.Event) {
		for many := int64(0); many <= 3; many++ {
			want := many > 0 && logRightSlowly(l, int(many))
			if impl.LogRight(l, many) != want {
				t.Fatalf("%d threads, %+v: not %t", many, l, want)
			}
			if want {
				right++
			}
		}
		if len(l) < 4 {
			for _, e := range kinds {
				from(append(l[:len(l):len(l)], e))
			}
		}
	}
	from(nil)
	same(t, "some are right", right > 100, true)
}

// sixAsks is six requests of which each may stand anywhere, told no.
func sixAsks() []impl.Req {
	var l []impl.Req
	for no := range int64(6) {
		l = append(l, ask(no+1, 3, 999))
	}
	return l
}

// P8: of what is not right there is no order, nobody won, and it is not linear, also where nothing returned.
func TestOrderOfWrong(t *testing.T) {
	g := twoWords()
	l := []impl.Req{redeem(1, 2, 20, "xyz"), ask(2, 3, 999)}
	won := impl.Resp{Token: 11, Next: 12}
	log := []impl.Event{begun(0), begun(1), returned(0, won), returned(1, impl.Resp{})}
	orderedAs(t, "all right", g, l, log, []int64{0, 1}, true)
	same(t, "all right, who won", impl.Winners(l, log, 20), int64(1))
	for what, wrong := range wrongStores() {
		// What is wrong of some stores stands beside the grant.
		if right := rightSlowly(wrong.Grant); !right {
			noOrder(t, "a grant: "+what, wrong.Grant, sixAsks()[:2], []impl.Event{begun(0), returned(0, impl.Resp{})})
			noOrder(t, "a grant, nothing returned: "+what, wrong.Grant, l, nil)
		}
	}
	for what, change := range map[string]func(*impl.Grant){
		"Now": atTime(-1), "Now above": atTime(impl.MaxTime + 1), "a State": state(1, 2), "Dead": dead(11), "Dead twice": dead(10, 10),
		"words turned": func(g *impl.Grant) { g.Words[0], g.Words[1] = g.Words[1], g.Words[0] },
		"many words":   func(g *impl.Grant) { g.Words = manyWords(21) },
	} {
		noOrder(t, "a grant: "+what, with(g, change), l, log)
		noOrder(t, "a grant, nothing returned: "+what, with(g, change), l, log[:2])
	}
	for _, r := range append(wrongReqs(), impl.Req{}) {
		for at := range l {
			turned := []impl.Req{l[0], l[1]}
			turned[at] = r
			what := fmt.Sprint(named(r), " at ", at)
			noOrder(t, what, g, turned, log)
			noOrder(t, what+", not begun", g, turned, []impl.Event{begun(int64(1 - at))})
			noOrder(t, what+", no events", g, turned, nil)
			noWinners(t, what, turned, log)
		}
		// It is not asked whether it began.
		noOrder(t, named(r)+", behind", g, append(l[:2:2], r), log)
		noWinners(t, named(r)+", behind", append(l[:2:2], r), log)
	}
	for what, wrong := range map[string][]impl.Event{
		"a thread that there is not":     append(log[:4:4], begun(2)),
		"a thread below 0":               append(log[:4:4], begun(-1)),
		"begins twice":                   append(log[:4:4], begun(1)),
		"returns twice":                  append(log[:4:4], log[2]),
		"returns ahead of its beginning": {begun(1), returned(0, won), begun(0), returned(1, impl.Resp{})},
		"returns without a beginning":    {returned(0, won)},
		"begins with something":          {begun(0), {Thread: 1, Resp: impl.Resp{Yes: true}}, returned(0, won)},
		"begins with something, alone":   {{Resp: impl.Resp{Code: 1}}},
		"MaxList of events":              make([]impl.Event, impl.MaxList),
		"one more":                       make([]impl.Event, impl.MaxList+1),
		"one more, the first are so":     append(log[:4:4], make([]impl.Event, impl.MaxList-3)...),
	} {
		noOrder(t, what, g, l, wrong)
		noWinners(t, what, l, wrong)
	}
}

// P8: there are 1 to MaxThreads requests, whether any of them began or not.
func TestOrderOfSizes(t *testing.T) {
	g := twoWords()
	no := impl.Resp{}
	log := []impl.Event{begun(0), returned(0, no)}
	for n := 1; n <= impl.MaxThreads; n++ {
		l := sixAsks()[:n]
		orderedAs(t, fmt.Sprint(n, ", no events"), g, l, nil, nil, true)
		orderedAs(t, fmt.Sprint(n, ", an empty log"), g, l, []impl.Event{}, nil, true)
		orderedAs(t, fmt.Sprint(n, ", one begins"), g, l, log[:1], nil, true)
		orderedAs(t, fmt.Sprint(n, ", one returns"), g, l, log, []int64{0}, true)
		last := int64(n - 1)
		orderedAs(t, fmt.Sprint(n, ", the last one returns"), g, l, []impl.Event{begun(last), returned(last, no)}, []int64{last}, true)
		noOrder(t, fmt.Sprint(n, ", one more begins"), g, l, []impl.Event{begun(last + 1)})
	}
	for _, n := range []int{7, 8, 99, impl.MaxList, impl.MaxList + 1, 10000} {
		l := make([]impl.Req, n)
		for i := range l {
			l[i] = redeem(1, 2, 20, "xyz")
		}
		for what, log := range map[string][]impl.Event{"no events": nil, "one begins": log[:1], "one returns": {begun(0), returned(0, impl.Resp{Token: 11, Next: 12})}} {
			noOrder(t, fmt.Sprint(n, ", ", what), g, l, log)
			noWinners(t, fmt.Sprint(n, ", ", what), l, log)
		}
	}
	for what, l := range map[string][]impl.Req{"no request": nil, "an empty list": {}} {
		noOrder(t, what, g, l, nil)
		noOrder(t, what+", one returns", g, l, log)
		noWinners(t, what, l, nil)
		noWinners(t, what+", one returns", l, log)
	}
	noOrder(t, "nothing", impl.Grant{}, nil, nil)
	orderedAs(t, "an empty grant", impl.Grant{}, sixAsks(), log, []int64{0}, true)
}
