package tests

import (
	"fmt"
	"math/rand"
	"slices"
	"testing"

	"loop.example/g00842/impl"
)

// givenBy is told what comes of a request: GrantDo, or what tells it in another way.
type givenBy func(impl.Grant, impl.Req) impl.GrantOut

// callsRightSlowly tells whether these requests and this log are right.
func callsRightSlowly(l []impl.Req, log []impl.Event) bool {
	wrong := func(r impl.Req) bool { return writeReqSlowly(r) == "" }
	return len(l) >= 1 && len(l) <= 6 && !slices.ContainsFunc(l, wrong) && logRightSlowly(log, len(l))
}

// eventAt is the place of the beginning, or of the return, of that thread in the log: below 0, if there is none.
func eventAt(log []impl.Event, thread int64, returns bool) int {
	return slices.IndexFunc(log, func(e impl.Event) bool { return e.Thread == thread && e.Return == returns })
}

// standsRight tells whether these are places of requests that began, no two alike, all that returned among them, and whether
// each that returned ahead of another one's beginning stands ahead of it.
func standsRight(l []impl.Req, log []impl.Event, order []int64) bool {
	for i, at := range order {
		if at < 0 || at >= int64(len(l)) || slices.Contains(order[:i], at) || eventAt(log, at, false) < 0 {
			return false
		}
	}
	for i, e := range log {
		if !e.Return {
			continue
		}
		stands := slices.Index(order, e.Thread)
		if stands < 0 {
			return false
		}
		for _, later := range places(log[i:], false) {
			if slices.Contains(order[:stands], later) {
				return false
			}
		}
	}
	return true
}

// isTold tells whether each of these that returned is told what it returned, if they come one after the other in that order.
func isTold(do givenBy, g impl.Grant, l []impl.Req, log []impl.Event, order []int64) bool {
	for _, at := range order {
		out := do(g, l[at])
		if end := eventAt(log, at, true); end >= 0 && log[end].Resp != out.Resp {
			return false
		}
		g = out.Grant
	}
	return true
}

// arrangements is all lists of places of n, no two alike, that begin so.
func arrangements(n int64, begin []int64) [][]int64 {
	all := [][]int64{begin}
	for at := range n {
		if !slices.Contains(begin, at) {
			all = append(all, arrangements(n, append(slices.Clone(begin), at))...)
		}
	}
	return all
}

// orderSlowly is what Order has to tell, and Linear, told in another way: all orders are tried, each from its beginning on.
func orderSlowly(g impl.Grant, l []impl.Req, log []impl.Event) ([]int64, bool) {
	if !rightSlowly(g) || !callsRightSlowly(l, log) {
		return nil, false
	}
	ended := places(log, true)
	if len(ended) == 0 {
		return nil, true
	}
	var first []int64
	for _, order := range arrangements(int64(len(l)), nil) {
		// It ends as soon as all that returned are in it: the last one is one of these.
		if len(order) < len(ended) || !slices.Contains(ended, order[len(order)-1]) {
			continue
		}
		if first != nil && slices.Compare(first, order) < 0 {
			continue
		}
		if standsRight(l, log, order) && isTold(doSlowly, g, l, log, order) {
			first = order
		}
	}
	return first, first != nil
}

// winnersSlowly is what Winners has to tell, told in another way.
func winnersSlowly(l []impl.Req, log []impl.Event, code int64) int64 {
	if !callsRightSlowly(l, log) {
		return 0
	}
	n := int64(0)
	for _, at := range places(log, true) {
		word := fmt.Sprintf("kind=redeem&client=%d&code=%d&proof=%s", l[at].Client, code, l[at].Proof)
		if writeReqSlowly(l[at]) == word && log[eventAt(log, at, true)].Resp.Code == 0 {
			n++
		}
	}
	return n
}

// ordered fails the test where Order and Linear do not tell of these what is told by trying all, where promise 8 does not
// hold of that, or where they are changed by that. It is the order, and whether there is one.
func ordered(t *testing.T, what string, g impl.Grant, l []impl.Req, log []impl.Event) ([]int64, bool) {
	t.Helper()
	before := fmt.Sprint(g, l, log)
	want, linear := orderSlowly(g, l, log)
	got := impl.Order(g, l, log)
	if !slices.Equal(got, want) || impl.Linear(g, l, log) != linear {
		t.Errorf("%s: got %v, %t, want %v, %t, of %v", what, got, impl.Linear(g, l, log), want, linear, before)
	}
	if len(got) > 0 && (!standsRight(l, log, got) || !isTold(impl.GrantDo, g, l, log, got)) {
		t.Errorf("%s: not as promised: %v of %v", what, got, before)
	}
	same(t, what+", what was handed in", fmt.Sprint(g, l, log), before)
	return got, linear
}

// orderedAs is ordered, of that order: none, where there is none or nothing returned, which is linear or not.
func orderedAs(t *testing.T, what string, g impl.Grant, l []impl.Req, log []impl.Event, want []int64, linear bool) {
	t.Helper()
	got, is := ordered(t, what, g, l, log)
	same(t, what+", the order", fmt.Sprint(got), fmt.Sprint(want))
	same(t, what+", linear", is, linear)
}

// noOrder fails the test where anything but nothing is told of these.
func noOrder(t *testing.T, what string, g impl.Grant, l []impl.Req, log []impl.Event) {
	t.Helper()
	same(t, what+", an order", len(impl.Order(g, l, log)), 0)
	same(t, what+", linear", impl.Linear(g, l, log), false)
}

// noWinners fails the test where any of these is told to have won.
func noWinners(t *testing.T, what string, l []impl.Req, log []impl.Event) {
	t.Helper()
	for code := int64(-1); code <= 100; code++ {
		same(t, fmt.Sprint(what, ", who won ", code), impl.Winners(l, log, code), int64(0))
	}
}

// allBegun is the beginnings of the places up to n, and behind them these.
func allBegun(n int, l ...impl.Event) []impl.Event {
	var log []impl.Event
	for at := range n {
		log = append(log, begun(int64(at)))
	}
	return append(log, l...)
}

// anyCalls is a right grant, right requests, and a log of them that has an order: of a run, or of ones that are done at once.
func anyCalls(random *rand.Rand, many int) (impl.Grant, []impl.Req, []impl.Event) {
	if random.Intn(3) == 0 {
		w := anyWorld(random, many)
		next := anyPicks(random, many)
		var picks []int64
		for range random.Intn(16 * many) {
			picks = append(picks, next())
		}
		return w.First, reqsOf(w), impl.Run(w, picks).World.Log
	}
	g := anyGrant(random)
	if random.Intn(3) > 0 {
		g = anyWorld(random, 1).First
	}
	var l []impl.Req
	for range many {
		if random.Intn(4) == 0 {
			l = append(l, anyReq(random, g))
		} else {
			// Few numbers: some ask for what others are given, and some have one number.
			l = append(l, anyWish(random, 1+int64(random.Intn(4)), []int64{1, 2, 3, 4}))
		}
	}
	return g, l, anyLog(random, g, l)
}

// anyLog is a log of these, each of which is done at once, somewhere between its beginning and its return.
func anyLog(random *rand.Rand, g impl.Grant, l []impl.Req) []impl.Event {
	var log []impl.Event
	stage, resps := make([]int, len(l)), make([]impl.Resp, len(l))
	for range random.Intn(5 * len(l)) {
		at := random.Intn(len(l))
		switch stage[at] {
		case 0:
			log = append(log, begun(int64(at)))
		case 1:
			out := doSlowly(g, l[at])
			g, resps[at] = out.Grant, out.Resp
		case 2:
			log = append(log, returned(int64(at), resps[at]))
		}
		stage[at]++
	}
	return log
}

// turnLog is log with one answer, one event, or one place turned.
func turnLog(random *rand.Rand, log []impl.Event, many int) []impl.Event {
	log = slices.Clone(log)
	if len(log) == 0 {
		return []impl.Event{{Thread: int64(random.Intn(many)), Return: random.Intn(4) == 0}}
	}
	at := random.Intn(len(log))
	switch random.Intn(12) {
	case 0:
		log[at].Thread = int64(random.Intn(many+2) - 1)
	case 1:
		log[at].Return = !log[at].Return
	case 2:
		return slices.Delete(log, at, at+1)
	case 3:
		return slices.Insert(log, random.Intn(len(log)+1), log[at])
	case 4, 5, 6:
		next := (at + 1) % len(log)
		log[at], log[next] = log[next], log[at]
	case 7:
		if log[at].Return {
			return slices.Delete(log, at, at+1)
		}
	default:
		turnResp(random, log)
	}
	return log
}

// turnResp turns an answer of log, if there is any.
func turnResp(random *rand.Rand, log []impl.Event) {
	ended := places(log, true)
	if len(ended) == 0 {
		return
	}
	one := &log[eventAt(log, ended[random.Intn(len(ended))], true)].Resp
	other := &log[eventAt(log, ended[random.Intn(len(ended))], true)].Resp
	switch random.Intn(6) {
	case 0:
		*one, *other = *other, *one
	case 1:
		one.Yes = !one.Yes
	case 2:
		*one = impl.Resp{Code: []int64{impl.ErrState, impl.ErrRange, impl.ErrNone}[random.Intn(3)]}
	case 3:
		one.Token++
	case 4:
		one.Next++
	default:
		*one = impl.Resp{}
	}
}
