package tests

import (
	"fmt"
	"math/rand"
	"slices"
	"testing"

	"loop.example/g00842/impl"
)

// sameStep fails the test where got is not want.
func sameStep(t *testing.T, what string, got, want impl.StepOut) {
	t.Helper()
	if got.Code != want.Code || got.Moved != want.Moved || got.Thread != want.Thread || !sameStores(got.Store, want.Store) {
		t.Errorf("%s:\n got %+v\nwant %+v", what, got, want)
	}
}

// steps fails the test where of s and th not that comes, or where s is changed by that.
func steps(t *testing.T, what string, s impl.Store, th impl.Thread, want impl.StepOut) {
	t.Helper()
	before := storeCopy(s)
	sameStep(t, what, impl.Step(s, th), want)
	sameStore(t, what+", what was handed in", s, before)
}

// goes is steps, of a step that leads to another one, and leaves that store.
func goes(t *testing.T, what string, s impl.Store, th impl.Thread, pc int64, then impl.Store) {
	t.Helper()
	next := th
	next.Pc = pc
	steps(t, what, s, th, impl.StepOut{Store: then, Thread: next, Moved: true})
}

// ends is steps, of a step with which the thread ends, told that, and which leaves that store.
func ends(t *testing.T, what string, s impl.Store, th impl.Thread, resp impl.Resp, then impl.Store) {
	t.Helper()
	last := th
	last.Resp, last.Done = resp, true
	steps(t, what, s, th, impl.StepOut{Store: then, Thread: last, Moved: true})
}

// endsWith is ends, of a code, or of nothing with OK; the store is left as it is.
func endsWith(t *testing.T, what string, s impl.Store, th impl.Thread, code int64) {
	t.Helper()
	ends(t, what, s, th, impl.Resp{Code: code}, s)
}

// at is a thread of which some step is the next one, and of which nothing else is zero.
func at(r impl.Req, pc int64, changes ...func(*impl.Thread)) impl.Thread {
	th := impl.Thread{Req: r, Pc: pc, Ver: 3, Till: 17, Resp: impl.Resp{Code: 99, Token: 8, Next: 9, Yes: true}}
	for _, change := range changes {
		change(&th)
	}
	return th
}

// ofVersion sets Ver.
func ofVersion(ver int64) func(*impl.Thread) { return func(th *impl.Thread) { th.Ver = ver } }

// ofTill sets Till.
func ofTill(till int64) func(*impl.Thread) { return func(th *impl.Thread) { th.Till = till } }

// killers is requests of each kind that may kill, all about what twoCached has.
func killers() map[string]impl.Req {
	return map[string]impl.Req{"redeem": redeem(30, 2, 20, "xyz"), "refresh": refresh(30, 1, 52), "revoke": revoke(30, 1, 51)}
}

// stepSlowly is what Step has to tell of a right store and a right thread, told in another way: row by row, on lists.
func stepSlowly(s impl.Store, th impl.Thread) impl.StepOut {
	if th.Done {
		return impl.StepOut{Code: impl.ErrState}
	}
	row := slowRow{s: storeCopy(s), th: th, moved: true}
	switch {
	case th.Req.Kind == impl.RqIssue || th.Req.Kind == impl.RqTick:
		row.end(row.grant())
	case th.Req.Kind == impl.RqAsk:
		row.ask()
	case th.Pc >= 5:
		row.kill()
	case th.Req.Kind == impl.RqRedeem:
		row.redeem()
	case th.Req.Kind == impl.RqRefresh:
		row.refresh()
	case th.Pc == 0 && row.key() != nil:
		row.th.Pc = 5
	case th.Pc == 0:
		row.end(impl.Resp{})
	default:
		row.none()
	}
	return impl.StepOut{Store: row.s, Thread: row.th, Moved: row.moved}
}

// slowRow is a store and a thread of which a step is done.
type slowRow struct {
	s     impl.Store
	th    impl.Thread
	moved bool
}

func (w *slowRow) end(r impl.Resp) { w.th.Resp, w.th.Done = r, true }

func (w *slowRow) none() { w.end(impl.Resp{Code: impl.ErrNone}) }

// grant does what doSlowly does, and is what that tells.
func (w *slowRow) grant() impl.Resp {
	out := doSlowly(w.s.Grant, w.th.Req)
	w.s.Grant = out.Grant
	return out.Resp
}

// key is the key of the request, if there is one.
func (w *slowRow) key() *impl.Key {
	for i, k := range w.s.Grant.Keys {
		if k.No == w.th.Req.Token && k.Client == w.th.Req.Client {
			return &w.s.Grant.Keys[i]
		}
	}
	return nil
}

// next is the key of the request, if there is one that is a refresh.
func (w *slowRow) next() *impl.Key {
	if k := w.key(); k != nil && k.Refresh {
		return k
	}
	return nil
}

// word is the word of the request, if there is one whose shade is the proof from behind.
func (w *slowRow) word() *impl.Word {
	shade := []byte(w.th.Req.Proof)
	slices.Reverse(shade)
	for i, word := range w.s.Grant.Words {
		if word.No == w.th.Req.Code && word.Client == w.th.Req.Client && word.Shade == string(shade) {
			return &w.s.Grant.Words[i]
		}
	}
	return nil
}

// give ends with the two keys, of that family, if none of them is there.
func (w *slowRow) give(fam int64, spend func()) {
	first := 10 * w.th.Req.No
	for _, k := range w.s.Grant.Keys {
		if k.No == first+1 || k.No == first+2 {
			w.end(impl.Resp{Code: impl.ErrThere})
			return
		}
	}
	spend()
	now := w.s.Grant.Now
	keys(newKeys(w.th.Req.No, w.th.Req.Client, fam, min(now+60, 1000000), min(now+300, 1000000))...)(&w.s.Grant)
	w.end(impl.Resp{Token: first + 1, Next: first + 2})
}

func (w *slowRow) dead(fam int64) bool { return slices.Contains(w.s.Grant.Dead, fam) }

// first is the step 0 of who comes for keys.
func (w *slowRow) first() {
	told := doSlowly(w.s.Grant, w.th.Req).Resp
	if told.Code == impl.ErrFull || told.Code == impl.ErrThere || told.Code == impl.ErrNone {
		w.end(told)
		return
	}
	w.th.Pc = 1
}

func (w *slowRow) redeem() {
	word := w.word()
	switch {
	case w.th.Pc == 0:
		w.first()
	case w.th.Pc != 1 || word == nil:
		w.none()
	case word.Used:
		w.th.Pc = 5
	case w.s.Grant.Now > word.Till || w.dead(word.No):
		w.end(impl.Resp{Code: impl.ErrRange})
	default:
		w.give(word.No, func() { word.Used = true })
	}
}

func (w *slowRow) refresh() {
	k := w.next()
	switch {
	case w.th.Pc == 0:
		w.first()
	case w.th.Pc == 3 || k == nil:
		w.none()
	case w.th.Pc == 1 && w.dead(k.Fam):
		w.th.Pc = 4
	case w.th.Pc == 1:
		w.th.Pc = 2
	case w.th.Pc == 2 && k.State != 0 || w.th.Pc == 4 && k.State == 1:
		w.th.Pc = 5
	case w.th.Pc == 4 || w.s.Grant.Now > k.Till || w.dead(k.Fam):
		w.end(impl.Resp{Code: impl.ErrRange})
	default:
		w.give(k.Fam, func() { k.State = 1 })
	}
}

func (w *slowRow) ask() {
	k, r, even := w.key(), w.th.Req, w.th.Ver&1 == 0
	yes := func(yes bool) { w.end(impl.Resp{Yes: yes}) }
	switch w.th.Pc {
	case 0:
		w.th.Ver = w.s.Ver
		w.th.Pc = 1 + w.s.Ver%2
	case 1:
		if e := findSlowly(w.s, r.Token, w.th.Ver); e.Client == r.Client {
			yes(w.s.Grant.Now <= e.Till)
		} else {
			w.th.Pc = 2
		}
	case 2:
		if k == nil || k.State != 0 || w.s.Grant.Now > k.Till {
			yes(false)
		} else {
			w.th.Pc, w.th.Till = 3, k.Till
		}
	case 3:
		switch {
		case k == nil:
			w.none()
		case w.dead(k.Fam) || !even || k.Refresh:
			yes(!w.dead(k.Fam))
		default:
			w.th.Pc = 4
		}
	case 4:
		if w.s.Ver == w.th.Ver {
			w.s = putSlowly(w.s, impl.Entry{Token: r.Token, Client: r.Client, Till: w.th.Till, Ver: w.th.Ver})
		}
		yes(true)
	default:
		w.none()
	}
}

func (w *slowRow) kill() {
	revoked := w.th.Req.Kind == impl.RqRevoke
	switch w.th.Pc {
	case 5:
		w.moved = w.s.Lock == 0
		if w.moved {
			w.s.Lock, w.th.Pc = w.th.Req.No, 6
		}
	case 6, 8:
		w.s.Ver = min(w.s.Ver+1, 1000000)
		w.th.Pc++
	case 7:
		if !revoked && w.word() == nil && w.next() == nil {
			w.none()
			return
		}
		w.th.Pc = 8
		if revoked {
			w.grant()
			return
		}
		fam := w.th.Req.Code
		if k := w.next(); k != nil {
			fam = k.Fam
		}
		w.s.Grant.Dead = append(w.s.Grant.Dead, fam)
		slices.Sort(w.s.Grant.Dead)
		w.s.Grant.Dead = slices.Compact(w.s.Grant.Dead)
	case 9:
		w.s.Lock = 0
		w.end(impl.Resp{Code: impl.ErrState})
		if revoked {
			w.end(impl.Resp{})
		}
	}
}

// anyThread is a right thread, not done, that might be at work on s.
func anyThread(random *rand.Rand, s impl.Store) impl.Thread {
	th := impl.Thread{Req: anyReq(random, s.Grant), Pc: int64(random.Intn(10)), Ver: int64(random.Intn(4)), Till: int64(random.Intn(3))}
	if random.Intn(3) == 0 {
		th.Pc = int64(random.Intn(3))
	}
	if random.Intn(2) == 0 {
		th.Ver = s.Ver
	}
	// What is cached is asked for more often so than it would be, proofs do not fit, and keys of the request's numbers are there.
	if n := len(s.Cache); n > 0 && th.Req.Kind == impl.RqAsk && random.Intn(2) == 0 {
		e := s.Cache[random.Intn(n)]
		th.Req.Token, th.Ver = e.Token, e.Ver
		if random.Intn(4) > 0 {
			th.Req.Client = e.Client
		}
	}
	if th.Req.Kind == impl.RqRedeem && random.Intn(8) == 0 {
		th.Req.Proof = []string{"a", "ab", "ba"}[random.Intn(3)]
	}
	if n := len(s.Grant.Keys); n > 0 && random.Intn(6) == 0 {
		th.Req.No = max(1, s.Grant.Keys[random.Intn(n)].No/10)
	}
	if random.Intn(4) == 0 {
		th.Resp = impl.Resp{Code: 5, Token: 6, Next: 7, Yes: true}
	}
	return th
}

// anyReqOn is a right request, which now and then asks for what is in the cache of s.
func anyReqOn(random *rand.Rand, s impl.Store) impl.Req {
	r := anyReq(random, s.Grant)
	if n := len(s.Cache); n > 0 && random.Intn(3) == 0 {
		e := s.Cache[random.Intn(n)]
		r = ask(r.No, e.Client, e.Token)
	}
	return r
}

// honestPart is s without what of its cache is not so.
func honestPart(s impl.Store) impl.Store {
	return store(s, cache(slices.DeleteFunc(slices.Clone(s.Cache), func(e impl.Entry) bool { return !honestSlowly(store(s, cache(e))) })...))
}

// unfit tells whether there is a word or key of the request's number and client that does not fit all the same: it is of
// another shade, or no refresh.
func unfit(g impl.Grant, r impl.Req) bool {
	switch r.Kind {
	case impl.RqRedeem:
		return slices.ContainsFunc(g.Words, func(w impl.Word) bool {
			return w.No == r.Code && w.Client == r.Client && w.Shade != impl.Shade(r.Proof)
		})
	case impl.RqRefresh:
		return slices.ContainsFunc(g.Keys, func(k impl.Key) bool { return k.No == r.Token && k.Client == r.Client && !k.Refresh })
	}
	return false
}

// doing is a text by which a thread can be told from others.
func doing(th impl.Thread) string {
	return fmt.Sprintf("step %d of %s", th.Pc, named(th.Req))
}
