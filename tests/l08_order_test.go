package tests

import (
	"fmt"
	"math/rand"
	"slices"
	"testing"

	"loop.example/g00842/impl"
)

// What is told in many of these tests.
var (
	toldNo, toldYes = impl.Resp{}, impl.Resp{Yes: true}
	toldLost        = impl.Resp{Code: impl.ErrState}
)

// toldKeys is the two keys that a request of that number is given.
func toldKeys(no int64) impl.Resp {
	return impl.Resp{Token: 10*no + 1, Next: 10*no + 2}
}

// P8: the order is told in which all that returned are told just what they returned, where there is one.
func TestOrder(t *testing.T) {
	g := twoWords()
	l := []impl.Req{redeem(1, 2, 20, "xyz"), redeem(2, 2, 20, "xyz"), ask(3, 2, 11)}
	for what, c := range map[string]struct {
		log    []impl.Event
		order  []int64
		linear bool
	}{
		"no events":                        {nil, nil, true},
		"nothing returned":                 {allBegun(3), nil, true},
		"one alone":                        {[]impl.Event{begun(1), returned(1, toldKeys(2))}, []int64{1}, true},
		"one alone, told something else":   {[]impl.Event{begun(1), returned(1, toldLost)}, nil, false},
		"the first one won":                {allBegun(2, returned(1, toldLost), returned(0, toldKeys(1))), []int64{0, 1}, true},
		"the second one won":               {allBegun(2, returned(1, toldKeys(2)), returned(0, toldLost)), []int64{1, 0}, true},
		"both won":                         {allBegun(2, returned(1, toldKeys(2)), returned(0, toldKeys(1))), nil, false},
		"both lost":                        {allBegun(2, returned(1, toldLost), returned(0, toldLost)), nil, false},
		"won with another one's keys":      {allBegun(2, returned(1, toldLost), returned(0, toldKeys(2))), nil, false},
		"as if first, but it began last":   {[]impl.Event{begun(1), returned(1, toldLost), begun(0), returned(0, toldKeys(1))}, nil, false},
		"first, as it began first":         {[]impl.Event{begun(1), returned(1, toldKeys(2)), begun(0), returned(0, toldLost)}, []int64{1, 0}, true},
		"asked between":                    {allBegun(3, returned(0, toldKeys(1)), returned(1, toldLost), returned(2, toldYes)), []int64{0, 2, 1}, true},
		"asked behind, or ahead":           {allBegun(3, returned(0, toldKeys(1)), returned(1, toldLost), returned(2, toldNo)), []int64{0, 1, 2}, true},
		"asked when it was killed":         {allBegun(2, returned(0, toldKeys(1)), returned(1, toldLost), begun(2), returned(2, toldYes)), nil, false},
		"asked when it was killed, no":     {allBegun(2, returned(0, toldKeys(1)), returned(1, toldLost), begun(2), returned(2, toldNo)), []int64{0, 1, 2}, true},
		"asked too early":                  {[]impl.Event{begun(2), returned(2, toldYes), begun(0), begun(1), returned(0, toldKeys(1)), returned(1, toldLost)}, nil, false},
		"asked early":                      {[]impl.Event{begun(2), returned(2, toldNo), begun(0), begun(1), returned(0, toldKeys(1)), returned(1, toldLost)}, []int64{2, 0, 1}, true},
		"asked of the other one's":         {allBegun(3, returned(0, toldLost), returned(1, toldKeys(2)), returned(2, toldYes)), nil, false},
		"told a Token more":                {[]impl.Event{begun(0), returned(0, impl.Resp{Token: 12, Next: 12})}, nil, false},
		"told a Next more":                 {[]impl.Event{begun(0), returned(0, impl.Resp{Token: 11, Next: 13})}, nil, false},
		"told a Yes more":                  {[]impl.Event{begun(0), returned(0, impl.Resp{Token: 11, Next: 12, Yes: true})}, nil, false},
		"told a Code more":                 {[]impl.Event{begun(0), returned(0, impl.Resp{Code: 1, Token: 11, Next: 12})}, nil, false},
		"told nothing":                     {[]impl.Event{begun(0), returned(0, impl.Resp{})}, nil, false},
		"right ones behind one that is so": {[]impl.Event{begun(0), returned(0, toldLost), begun(1), returned(1, toldKeys(2))}, nil, false},
	} {
		orderedAs(t, what, g, l, c.log, c.order, c.linear)
	}
}

// P8: of those that began and did not return some must stand in the order, some need not and do, some do not, and some may not.
func TestOrderOfBegun(t *testing.T) {
	g := twoWords()
	l := []impl.Req{redeem(1, 2, 20, "xyz"), redeem(2, 2, 20, "xyz"), ask(3, 1, 51), tick(4, 20), tick(6, 21), revoke(7, 1, 51)}
	for what, c := range map[string]struct {
		log   []impl.Event
		order []int64
	}{
		"one must":                           {[]impl.Event{begun(0), begun(1), returned(1, toldLost)}, []int64{0, 1}},
		"one must, of a greater place":       {[]impl.Event{begun(1), begun(0), returned(0, toldLost)}, []int64{1, 0}},
		"one must, and did not begin":        {[]impl.Event{begun(1), returned(1, toldLost)}, nil},
		"one must, and began too late":       {[]impl.Event{begun(1), returned(1, toldLost), begun(0)}, nil},
		"one must not":                       {[]impl.Event{begun(0), begun(1), returned(1, toldKeys(2))}, []int64{1}},
		"one need not, of a greater place":   {[]impl.Event{begun(0), begun(1), returned(0, toldKeys(1))}, []int64{0}},
		"one need not, and may":              {[]impl.Event{begun(2), begun(3), returned(3, toldNo)}, []int64{2, 3}},
		"one need not, and began too late":   {[]impl.Event{begun(3), returned(3, toldNo), begun(2)}, []int64{3}},
		"one need not, another one stands":   {[]impl.Event{begun(4), begun(3), begun(2), returned(4, toldNo), returned(2, toldYes)}, []int64{2, 3, 4}},
		"one may not first, and may then":    {[]impl.Event{begun(0), begun(4), returned(4, toldNo), begun(1), returned(1, impl.Resp{Code: impl.ErrRange})}, []int64{4, 0, 1}},
		"one must, one may, one may not":     {[]impl.Event{begun(4), begun(1), begun(3), begun(0), returned(0, toldLost)}, []int64{1, 0}},
		"one of two must":                    {[]impl.Event{begun(2), begun(4), begun(5), returned(2, toldNo)}, []int64{4, 2}},
		"another one of two must":            {[]impl.Event{begun(2), begun(5), begun(3), returned(2, toldNo)}, []int64{3, 5, 2}},
		"the one that must stands behind":    {[]impl.Event{begun(3), begun(2), returned(3, toldNo), begun(5), returned(2, toldNo)}, []int64{3, 5, 2}},
		"the one that must began behind":     {[]impl.Event{begun(3), begun(2), returned(3, toldNo), returned(2, toldNo), begun(5)}, nil},
		"none of them, behind the last one":  {[]impl.Event{begun(0), begun(1), begun(3), begun(4), begun(5), begun(2), returned(0, toldKeys(1))}, []int64{0}},
		"one returned ahead of one that may": {[]impl.Event{begun(5), returned(5, toldNo), begun(0), begun(3), returned(3, toldNo)}, []int64{5, 0, 3}},
		"all of them must":                   {[]impl.Event{begun(3), begun(4), begun(0), begun(2), begun(1), returned(2, toldYes), returned(1, toldLost)}, []int64{0, 1, 2}},
	} {
		orderedAs(t, what, g, l, c.log, c.order, c.order != nil)
	}
}

// P8: it is the first order: at each place the least one is tried first that may stand there, and others where that leads nowhere.
func TestOrderIsTheFirst(t *testing.T) {
	g := twoWords()
	var nested, inTurn []impl.Event
	for at := range int64(6) {
		nested = append(nested, returned(at, toldNo))
		inTurn = append(inTurn, begun(5-at), returned(5-at, toldNo))
	}
	orderedAs(t, "six that may stand anywhere", g, sixAsks(), allBegun(6, nested...), []int64{0, 1, 2, 3, 4, 5}, true)
	slices.Reverse(nested)
	orderedAs(t, "six, the last one returns first", g, sixAsks(), allBegun(6, nested...), []int64{0, 1, 2, 3, 4, 5}, true)
	orderedAs(t, "six, one after the other", g, sixAsks(), inTurn, []int64{5, 4, 3, 2, 1, 0}, true)
	for begin := range 6 {
		log := append(allBegun(begin), inTurn...)
		log = slices.DeleteFunc(log, func(e impl.Event) bool {
			return e.Thread < int64(begin) && (e.Return || eventAt(log, e.Thread, false) < 0)
		})
		ordered(t, fmt.Sprint(begin, " began ahead"), g, sixAsks(), log)
	}
	// Each one asks for what the one behind it is given: but the first one, which finds nothing to revoke, they can only come
	// from the last one to the first.
	chain := []impl.Req{revoke(9, 3, 22), ask(8, 3, 21), refresh(2, 3, 32), refresh(3, 3, 42), redeem(4, 3, 1, "ab"), issue(1, 3, "ba")}
	answers := []impl.Event{returned(0, toldNo), returned(1, toldYes), returned(2, toldKeys(2)), returned(3, toldKeys(3)), returned(4, toldKeys(4)), returned(5, impl.Resp{Token: 1})}
	orderedAs(t, "a chain", g, chain, allBegun(6, answers...), []int64{0, 5, 4, 3, 2, 1}, true)
	answers[1].Resp = toldNo
	orderedAs(t, "a chain, asked anywhere", g, chain, allBegun(6, answers...), []int64{0, 1, 5, 4, 3, 2}, true)
	answers[3].Resp = toldLost
	orderedAs(t, "a chain, broken", g, chain, allBegun(6, answers...), nil, false)
	orderedAs(t, "a chain of which one returned", g, chain, allBegun(6, returned(1, toldYes)), []int64{0, 5, 4, 3, 2, 1}, true)
	orderedAs(t, "a chain of which one returned something else", g, chain, allBegun(6, returned(1, toldLost)), nil, false)
}

// P8: two requests may have one No; they are told apart by their places.
func TestOrderOfOneNo(t *testing.T) {
	there := impl.Resp{Code: impl.ErrThere}
	words := []impl.Req{issue(1, 1, "ba"), issue(1, 1, "ba")}
	given := impl.Resp{Token: 1}
	orderedAs(t, "the first one", impl.Grant{}, words, allBegun(2, returned(0, given), returned(1, there)), []int64{0, 1}, true)
	orderedAs(t, "the second one", impl.Grant{}, words, allBegun(2, returned(0, there), returned(1, given)), []int64{1, 0}, true)
	orderedAs(t, "both", impl.Grant{}, words, allBegun(2, returned(0, given), returned(1, given)), nil, false)
	orderedAs(t, "neither", impl.Grant{}, words, allBegun(2, returned(0, there), returned(1, there)), nil, false)
	orderedAs(t, "one must stand", impl.Grant{}, words, allBegun(2, returned(0, there)), []int64{1, 0}, true)
	all := []impl.Req{redeem(1, 2, 20, "xyz"), redeem(1, 2, 20, "xyz"), ask(1, 2, 11), ask(1, 2, 11), tick(1, 1), tick(1, 1)}
	log := allBegun(6, returned(1, toldKeys(1)), returned(0, there), returned(3, toldYes), returned(2, toldNo), returned(4, toldNo))
	orderedAs(t, "six", twoWords(), all, log, []int64{2, 1, 0, 3, 4}, true)
	same(t, "six, who won", impl.Winners(all, log, 20), int64(1))
	// Of such a world there is none; nor of one whose keys are there already.
	there2 := []impl.Event{begun(0), returned(0, there)}
	orderedAs(t, "its keys are there", twoWords(), []impl.Req{redeem(5, 2, 20, "xyz")}, there2, []int64{0}, true)
	orderedAs(t, "its word is there", twoWords(), []impl.Req{issue(10, 2, "xyz")}, there2, []int64{0}, true)
	full := impl.Grant{Words: manyWords(impl.MaxCodes), Keys: manyKeys(impl.MaxKeys)}
	noRoom := []impl.Event{begun(0), returned(0, impl.Resp{Code: impl.ErrFull})}
	orderedAs(t, "no room for a word", full, []impl.Req{issue(99, 2, "xyz")}, noRoom, []int64{0}, true)
	orderedAs(t, "no room for keys", full, []impl.Req{redeem(99, 1, 1, "ab")}, noRoom, []int64{0}, true)
}

// P8: over many grants, requests and logs, of runs, made up, and turned in one place, Order and Linear tell what is told by trying
// all, and keep what is promised.
func TestOrdersAtRandom(t *testing.T) {
	random := rand.New(rand.NewSource(29))
	seen := map[string]int{}
	for range 3000 {
		many := 1 + random.Intn(5)
		if random.Intn(12) == 0 {
			many = 6
		}
		g, l, log := anyCalls(random, many)
		order, linear := ordered(t, "as it came", g, l, log)
		same(t, "there is an order", linear, true)
		countOrder(seen, "as it came", l, log, order, linear)
		for range 3 {
			turned := turnLog(random, log, many)
			order, linear = ordered(t, "turned", g, l, turned)
			countOrder(seen, "turned", l, turned, order, linear)
		}
		ordered(t, "of other requests", g, append(l[1:], l[0]), log)
		ordered(t, "from another grant on", with(g, atTime(min(g.Now+20, impl.MaxTime))), l, log)
		if t.Failed() {
			t.FailNow()
		}
	}
	for _, what := range []string{
		"as it came, linear", "turned, linear", "turned, not linear", "turned, not right", "as it came, nothing returned",
		"as it came, not as they came", "turned, not as they came", "as it came, who did not return stands", "as it came, who began stands not",
		"turned, who did not return stands", "turned, who began stands not", "turned, of all six", "turned, of six, none",
	} {
		if seen[what] < 30 {
			t.Errorf("%s came %d times alone", what, seen[what])
		}
	}
}

// countOrder counts what came of these.
func countOrder(seen map[string]int, what string, l []impl.Req, log []impl.Event, order []int64, linear bool) {
	right := callsRightSlowly(l, log)
	ended := places(log, true)
	pending := slices.DeleteFunc(places(log, false), func(at int64) bool { return slices.Contains(ended, at) })
	for name, so := range map[string]bool{
		"linear":                     linear && len(order) > 0,
		"not linear":                 right && !linear,
		"not right":                  !right,
		"nothing returned":           linear && len(order) == 0,
		"not as they came":           len(order) > 1 && !slices.IsSorted(order),
		"who did not return stands":  slices.ContainsFunc(pending, func(at int64) bool { return slices.Contains(order, at) }),
		"who began stands not":       len(order) > 0 && slices.ContainsFunc(pending, func(at int64) bool { return !slices.Contains(order, at) }),
		"of all six":                 len(order) == 6,
		"of six, none":               right && len(l) == 6 && !linear,
		"one alone of many that are": right && len(l) > 1 && len(order) == 1,
	} {
		if so {
			seen[what+", "+name]++
		}
	}
}

// P8: an order is new memory: it shares none with what was handed in, nor with another answer; nothing behind that is changed.
func TestOrdersAreNew(t *testing.T) {
	random := rand.New(rand.NewSource(30))
	for range 500 {
		g, l, log := anyCalls(random, 1+random.Intn(4))
		g = withRoom(impl.Store{Grant: g}).Grant
		l, log = slices.Grow(l, 4), slices.Grow(log, 4)
		all := func() string {
			return fmt.Sprint(whole(impl.Store{Grant: g}), l[:cap(l)], log[:cap(log)])
		}
		before := all()
		a, b := impl.Order(g, l, log), impl.Order(g, l, log)
		want := slices.Clone(b)
		for i := range a[:cap(a)] {
			a[:cap(a)][i] = -1
		}
		same(t, "answers that share", fmt.Sprint(b), fmt.Sprint(want))
		same(t, "asked again", fmt.Sprint(impl.Order(g, l, log)), fmt.Sprint(want))
		impl.Linear(g, l, log)
		impl.Winners(l, log, 10)
		impl.LogRight(log, int64(len(l)))
		same(t, "what was handed in", all(), before)
	}
}

// P8: the same is told to many who ask at the same time, again and again.
func TestOrdersAtOnce(t *testing.T) {
	random := rand.New(rand.NewSource(31))
	g, l, log := anyCalls(random, 5)
	for len(places(log, true)) < 4 {
		g, l, log = anyCalls(random, 5)
	}
	want, linear := orderSlowly(g, l, log)
	for i := range 20 {
		t.Run(fmt.Sprintf("reader %d", i), func(t *testing.T) {
			t.Parallel()
			for range 50 {
				same(t, "the order", fmt.Sprint(impl.Order(g, l, log)), fmt.Sprint(want))
				same(t, "linear", impl.Linear(g, l, log), linear)
			}
		})
	}
}

func FuzzLines(f *testing.F) {
	f.Add(int64(1), []byte{0, 1, 2, 1, 0})
	f.Add(int64(7), []byte{9, 14, 3, 0, 22, 5})
	f.Fuzz(func(t *testing.T, seed int64, events []byte) {
		random := rand.New(rand.NewSource(seed))
		g, l, log := anyCalls(random, 1+random.Intn(impl.MaxThreads))
		ordered(t, "as it came", g, l, log)
		for range random.Intn(4) {
			log = turnLog(random, log, len(l))
			ordered(t, "turned", g, l, log)
		}
		for _, b := range events[:min(len(events), 2*impl.MaxThreads+1)] {
			log = append(log, impl.Event{Thread: int64(b%16)/2 - 1, Return: b%2 == 1})
		}
		ordered(t, "with more events", g, l, log)
		for code := int64(-1); code <= 100; code++ {
			same(t, fmt.Sprint("who won ", code), impl.Winners(l, log, code), winnersSlowly(l, log, code))
		}
	})
}
