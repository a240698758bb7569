package tests

import (
	"fmt"
	"math/rand"
	"slices"
	"testing"

	"loop.example/g00842/impl"
)

// aloneAs fails the test where of r, alone on s, not that is told and left which GrantDo tells and leaves, or where s is
// changed by that; it is what Alone tells.
func aloneAs(t *testing.T, what string, s impl.Store, r impl.Req) impl.StepOut {
	t.Helper()
	before := storeCopy(s)
	got := impl.Alone(s, r)
	want := impl.GrantDo(s.Grant, r)
	sameOut(t, what, impl.GrantOut{Grant: got.Store.Grant, Resp: got.Thread.Resp, Code: got.Code}, want)
	same(t, what+", done", got.Thread.Done && got.Moved && got.Store.Lock == 0, true)
	same(t, what+", request", got.Thread.Req, r)
	sameStore(t, what+", what was handed in", s, before)
	sameStep(t, what+", step by step", got, byStep(s, r))
	return got
}

// byStep is what comes of all steps of one who is alone.
func byStep(s impl.Store, r impl.Req) impl.StepOut {
	out := impl.StepOut{Store: s, Thread: impl.ThreadNew(r)}
	for range 100 {
		if out = impl.Step(out.Store, out.Thread); out.Code != impl.OK || out.Thread.Done {
			break
		}
	}
	return out
}

// way is the numbers of the steps by which r is served alone.
func way(s impl.Store, r impl.Req) string {
	out := impl.StepOut{Store: s, Thread: impl.ThreadNew(r)}
	var l []int64
	for !out.Thread.Done && len(l) < 100 {
		l = append(l, out.Thread.Pc)
		out = impl.Step(out.Store, out.Thread)
	}
	return fmt.Sprint(l)
}

// P5: who is alone is told, and leaves, just what is told and left where one comes after the other; of each kind, and each
// way that it takes.
func TestAlone(t *testing.T) {
	s := twoCached()
	there := granted(keys(impl.Key{No: 302, Client: 3, Fam: 20}))
	cases := []struct {
		what string
		s    impl.Store
		r    impl.Req
		resp impl.Resp
		way  string
		ver  int64
	}{
		{"issue", s, issue(30, 3, "abc"), impl.Resp{Token: 30}, "[0]", 6},
		{"issue, there", s, issue(10, 3, "abc"), impl.Resp{Code: impl.ErrThere}, "[0]", 6},
		{"tick", s, tick(30, 5), impl.Resp{}, "[0]", 6},
		{"redeem", s, redeem(30, 2, 20, "xyz"), impl.Resp{Token: 301, Next: 302}, "[0 1]", 6},
		{"redeem, at its end", store(s, granted(atTime(103))), redeem(30, 2, 20, "xyz"), impl.Resp{Token: 301, Next: 302}, "[0 1]", 6},
		{"redeem, late", store(s, granted(atTime(104))), redeem(30, 2, 20, "xyz"), impl.Resp{Code: impl.ErrRange}, "[0 1]", 6},
		{"redeem, dead", store(s, granted(dead(20))), redeem(30, 2, 20, "xyz"), impl.Resp{Code: impl.ErrRange}, "[0 1]", 6},
		{"redeem, used", s, redeem(30, 1, 10, "ab"), impl.Resp{Code: impl.ErrState}, "[0 1 5 6 7 8 9]", 8},
		{"redeem, used and dead", store(s, granted(dead(10))), redeem(30, 1, 10, "ab"), impl.Resp{Code: impl.ErrState}, "[0 1 5 6 7 8 9]", 8},
		{"redeem, not there", s, redeem(30, 2, 21, "xyz"), impl.Resp{Code: impl.ErrNone}, "[0]", 6},
		{"redeem, another shade", s, redeem(30, 2, 20, "zyx"), impl.Resp{Code: impl.ErrNone}, "[0]", 6},
		{"redeem, there", store(s, there), redeem(30, 2, 20, "xyz"), impl.Resp{Code: impl.ErrThere}, "[0]", 6},
		{"redeem, full", filled(39), redeem(30, 2, 20, "xyz"), impl.Resp{Code: impl.ErrFull}, "[0]", 6},
		{"redeem, the last room", filled(38), redeem(30, 2, 20, "xyz"), impl.Resp{Token: 301, Next: 302}, "[0 1]", 6},
		{"refresh", s, refresh(30, 1, 52), impl.Resp{Token: 301, Next: 302}, "[0 1 2]", 6},
		{"refresh, at its end", store(s, granted(atTime(140))), refresh(30, 1, 52), impl.Resp{Token: 301, Next: 302}, "[0 1 2]", 6},
		{"refresh, late", store(s, granted(atTime(141))), refresh(30, 1, 52), impl.Resp{Code: impl.ErrRange}, "[0 1 2]", 6},
		{"refresh, dead", store(s, granted(dead(10))), refresh(30, 1, 52), impl.Resp{Code: impl.ErrRange}, "[0 1 4]", 6},
		{"refresh, changed", store(s, granted(state(1, 1))), refresh(30, 1, 52), impl.Resp{Code: impl.ErrState}, "[0 1 2 5 6 7 8 9]", 8},
		{"refresh, changed and late", store(s, granted(state(1, 1), atTime(141))), refresh(30, 1, 52), impl.Resp{Code: impl.ErrState}, "[0 1 2 5 6 7 8 9]", 8},
		{"refresh, changed and dead", store(s, granted(state(1, 1), dead(10))), refresh(30, 1, 52), impl.Resp{Code: impl.ErrState}, "[0 1 4 5 6 7 8 9]", 8},
		{"refresh, no refresh", s, refresh(30, 1, 51), impl.Resp{Code: impl.ErrNone}, "[0]", 6},
		{"refresh, another client's", s, refresh(30, 2, 52), impl.Resp{Code: impl.ErrNone}, "[0]", 6},
		{"refresh, there", store(s, there), refresh(30, 1, 52), impl.Resp{Code: impl.ErrThere}, "[0]", 6},
		{"refresh, full", filled(39), refresh(30, 1, 52), impl.Resp{Code: impl.ErrFull}, "[0]", 6},
		{"revoke", s, revoke(30, 1, 51), impl.Resp{}, "[0 5 6 7 8 9]", 8},
		{"revoke, all", s, revoke(30, 1, 52), impl.Resp{}, "[0 5 6 7 8 9]", 8},
		{"revoke, taken already", store(s, granted(state(0, 2))), revoke(30, 1, 51), impl.Resp{}, "[0 5 6 7 8 9]", 8},
		{"revoke, not there", s, revoke(30, 1, 54), impl.Resp{}, "[0]", 6},
		{"revoke, another client's", s, revoke(30, 2, 51), impl.Resp{}, "[0]", 6},
		{"ask, cached", s, ask(30, 1, 51), impl.Resp{Yes: true}, "[0 1]", 6},
		{"ask, cached, at its end", store(s, granted(atTime(120))), ask(30, 1, 51), impl.Resp{Yes: true}, "[0 1]", 6},
		{"ask, cached, late", store(s, granted(atTime(121))), ask(30, 1, 51), impl.Resp{}, "[0 1]", 6},
		{"ask, cached for another client", s, ask(30, 2, 51), impl.Resp{}, "[0 1 2]", 6},
		{"ask, cached of another version", s, ask(30, 2, 71), impl.Resp{Yes: true}, "[0 1 2 3 4]", 6},
		{"ask, while something is killed", store(s, version(7)), ask(30, 1, 51), impl.Resp{Yes: true}, "[0 2 3]", 7},
		{"ask, not cached", s, ask(30, 1, 53), impl.Resp{Yes: true}, "[0 1 2 3 4]", 6},
		{"ask, a refresh", s, ask(30, 1, 52), impl.Resp{Yes: true}, "[0 1 2 3]", 6},
		{"ask, late", store(s, granted(atTime(121))), ask(30, 1, 53), impl.Resp{}, "[0 1 2]", 6},
		{"ask, taken", store(s, granted(state(2, 2))), ask(30, 1, 53), impl.Resp{}, "[0 1 2]", 6},
		{"ask, dead", store(s, cache(), granted(dead(10))), ask(30, 1, 51), impl.Resp{}, "[0 1 2 3]", 6},
		{"ask, not there", s, ask(30, 1, 54), impl.Resp{}, "[0 1 2]", 6},
	}
	for _, c := range cases {
		got := aloneAs(t, c.what, c.s, c.r)
		same(t, c.what+", told", got.Thread.Resp, c.resp)
		same(t, c.what+", the way", way(c.s, c.r), c.way)
		same(t, c.what+", the version", got.Store.Ver, c.ver)
	}
}

// P5: who asks leaves the key in the cache, of the version alone that is then; and what was killed meanwhile is found no more.
func TestAloneCaches(t *testing.T) {
	s := store(twoCached(), cache())
	asked := aloneAs(t, "asked", s, ask(30, 1, 51)).Store
	e := impl.Entry{Token: 51, Client: 1, Till: 120, Ver: 6}
	sameStore(t, "cached", asked, store(s, cache(e)))
	again := aloneAs(t, "asked again", asked, ask(31, 1, 51)).Store
	sameStore(t, "left as it was", again, asked)
	both := aloneAs(t, "another one", asked, ask(31, 1, 53)).Store
	sameStore(t, "both cached", both, store(s, cache(e, impl.Entry{Token: 53, Client: 1, Till: 120, Ver: 6})))
	for _, r := range []impl.Req{ask(32, 2, 51), ask(32, 1, 52), ask(32, 1, 54), issue(32, 1, "a"), tick(32, 1), redeem(32, 2, 20, "xyz"), refresh(32, 1, 52), revoke(32, 1, 54)} {
		left := aloneAs(t, named(r), both, r).Store
		same(t, named(r)+", the cache", slices.Equal(left.Cache, both.Cache) && left.Ver == 6, true)
	}
	revoked := aloneAs(t, "revoked", both, revoke(32, 1, 53)).Store
	sameStore(t, "of another version", revoked, store(both, version(8), granted(state(2, 2))))
	same(t, "found no more", impl.CacheFind(revoked, 53, revoked.Ver), impl.Entry{})
	same(t, "told no more", aloneAs(t, "asked for what was revoked", revoked, ask(33, 1, 53)).Thread.Resp.Yes, false)
	anew := aloneAs(t, "asked for the other one", revoked, ask(33, 1, 51)).Store
	e.Ver = 8
	sameStore(t, "cached anew", anew, store(revoked, cache(revoked.Cache[1], e)))
	odd := store(s, version(7))
	sameStore(t, "nothing is cached of an odd version", aloneAs(t, "odd", odd, ask(30, 1, 51)).Store, odd)
}

// P5: the version stays MaxTime, once it is, and what is told and left is so all the same.
func TestAloneAtLastVersion(t *testing.T) {
	for _, c := range []struct{ ver, then int64 }{{impl.MaxTime - 2, impl.MaxTime}, {impl.MaxTime - 1, impl.MaxTime}, {impl.MaxTime, impl.MaxTime}} {
		for _, r := range []impl.Req{redeem(30, 1, 10, "ab"), revoke(30, 1, 51), revoke(30, 1, 52)} {
			got := aloneAs(t, named(r), store(twoCached(), version(c.ver)), r)
			same(t, fmt.Sprint(named(r), " of ", c.ver), got.Store.Ver, c.then)
		}
		changed := store(twoCached(), version(c.ver), granted(state(1, 1)))
		same(t, fmt.Sprint("changed, of ", c.ver), aloneAs(t, "changed", changed, refresh(30, 1, 52)).Store.Ver, c.then)
	}
}

// P5: one who is alone after the other, from nothing on, is told what GrantAll tells, and leaves what that leaves; each store is honest.
func TestAloneStory(t *testing.T) {
	random := rand.New(rand.NewSource(19))
	told := map[string]int{}
	for range 500 {
		g := anyGrant(random)
		s := impl.StoreNew(g)
		var l []impl.Req
		for range 14 {
			r := anyReqOn(random, s)
			l = append(l, r)
			out := aloneAs(t, named(r), s, r)
			sameOut(t, "of all", impl.GrantOut{Grant: out.Store.Grant, Resp: out.Thread.Resp}, impl.GrantAll(g, l))
			s = out.Store
			same(t, "right", impl.StoreRight(s) && storeRightSlowly(s), true)
			same(t, "honest", impl.Honest(s), true)
			if t.Failed() {
				t.Fatalf("%+v from %+v", l, g)
			}
			told[fmt.Sprintf("%d of kind %d", out.Thread.Resp.Code, r.Kind)]++
			told[fmt.Sprintf("yes %t by step %d", out.Thread.Resp.Yes, out.Thread.Pc)]++
		}
	}
	for _, what := range []string{"0 of kind 1", "0 of kind 2", "10 of kind 2", "0 of kind 3", "10 of kind 3", "8 of kind 3", "0 of kind 4", "yes true by step 1", "yes true by step 3", "yes true by step 4", "yes false by step 2", "yes false by step 3"} {
		if told[what] < 10 {
			t.Errorf("%s came %d times alone", what, told[what])
		}
	}
}

// P5: over stores of all kinds that are honest, it is so of who is alone on them.
func TestAloneAtRandom(t *testing.T) {
	random := rand.New(rand.NewSource(20))
	cached := 0
	for range 6000 {
		s := honestPart(anyStore(random))
		s.Lock = 0
		// What is of another version is asked for by others.
		if len(s.Cache) > 0 && s.Cache[0].Ver != s.Ver && random.Intn(2) == 0 {
			s = honestPart(store(s, version(s.Cache[0].Ver)))
		}
		r := anyReqOn(random, s)
		out := aloneAs(t, named(r), s, r)
		if t.Failed() {
			t.Fatalf("from %+v", s)
		}
		if r.Kind == impl.RqAsk && out.Thread.Pc == 1 {
			cached++
		}
	}
	if cached < 100 {
		t.Errorf("what is cached was told %d times alone", cached)
	}
}

// P5: over stores and threads of all kinds, each step does what another one tells of its row.
func TestStepsAtRandom(t *testing.T) {
	random := rand.New(rand.NewSource(21))
	seen := map[string]int{}
	for range 45000 {
		s := anyStore(random)
		th := anyThread(random, s)
		if random.Intn(50) == 0 {
			s.Ver = impl.MaxTime - int64(random.Intn(2))
		}
		want := stepSlowly(s, th)
		steps(t, doing(th), s, th, want)
		if t.Failed() {
			t.Fatalf("from %+v", s)
		}
		seen[fmt.Sprintf("kind %d, %d", th.Req.Kind, th.Pc)]++
		if unfit(s.Grant, th.Req) {
			seen[fmt.Sprintf("kind %d, %d, unfit", th.Req.Kind, th.Pc)]++
		}
		seen[fmt.Sprintf("kind %d, %d to %d, %t, %d", th.Req.Kind, th.Pc, want.Thread.Pc, want.Thread.Done, want.Thread.Resp.Code)]++
	}
	for kind := range 6 {
		for pc := range 10 {
			if what := fmt.Sprintf("kind %d, %d", kind+1, pc); seen[what] < 100 {
				t.Errorf("%s came %d times alone", what, seen[what])
			}
		}
	}
	for _, what := range []string{
		"kind 2, 1 to 5, false, 0", "kind 2, 1 to 1, true, 0", "kind 2, 1 to 1, true, 6", "kind 2, 1 to 1, true, 7", "kind 2, 1 to 1, true, 8",
		"kind 3, 1 to 4, false, 0", "kind 3, 1 to 2, false, 0", "kind 3, 2 to 5, false, 0", "kind 3, 2 to 2, true, 0", "kind 3, 2 to 2, true, 6",
		"kind 3, 2 to 2, true, 7", "kind 3, 2 to 2, true, 8", "kind 3, 4 to 5, false, 0", "kind 3, 4 to 4, true, 8", "kind 4, 0 to 5, false, 0", "kind 4, 0 to 0, true, 0",
		"kind 2, 1, unfit", "kind 2, 7, unfit", "kind 3, 1, unfit", "kind 3, 2, unfit", "kind 3, 4, unfit", "kind 3, 7, unfit",
		"kind 5, 1 to 1, true, 0", "kind 5, 1 to 2, false, 0", "kind 5, 2 to 3, false, 0", "kind 5, 3 to 4, false, 0", "kind 5, 3 to 3, true, 0", "kind 5, 3 to 3, true, 6",
	} {
		if seen[what] < 10 {
			t.Errorf("%s came %d times alone", what, seen[what])
		}
	}
}

// P5: an answer is new memory, and what is handed in is not changed, nor anything behind it.
func TestStepsAreNew(t *testing.T) {
	random := rand.New(rand.NewSource(22))
	for range 1000 {
		s := withRoom(anyStore(random))
		free := withRoom(s)
		free.Lock = 0
		before, freeBefore := whole(s), whole(free)
		th := anyThread(random, s)
		outs := []impl.StepOut{impl.Step(s, th), impl.Step(s, th), impl.Alone(free, th.Req), impl.Alone(free, th.Req)}
		var kept []impl.Store
		for _, out := range outs {
			kept = append(kept, storeCopy(out.Store))
		}
		for i, out := range outs {
			sameStore(t, "answers that share", out.Store, kept[i])
			spoil(out.Store)
		}
		same(t, "what was handed in", whole(s), before)
		same(t, "what was handed in, not locked", whole(free), freeBefore)
	}
	text := string([]byte("abcdefgh"))
	g := impl.Grant{Words: []impl.Word{{No: 1, Client: 1, Shade: text}}}
	r := issue(30, 1, text)
	same(t, "a new thread", shares(impl.ThreadNew(r).Req.Proof, text), false)
	for what, out := range map[string]impl.StepOut{
		"a step": impl.Step(impl.Store{Grant: g}, impl.Thread{Req: r}), "alone": impl.Alone(impl.Store{Grant: g}, r),
		"nothing done": impl.Step(impl.Store{Grant: g, Lock: 9}, impl.Thread{Req: redeem(30, 1, 1, text), Pc: 5}),
	} {
		same(t, what+", the request", shares(out.Thread.Req.Proof, text), false)
		for _, w := range out.Store.Grant.Words {
			same(t, what+", a shade", shares(w.Shade, text) || shares(w.Shade, out.Thread.Req.Proof), false)
		}
	}
}

// P5: the same is told to many who ask of one store at the same time.
func TestStepsAtOnce(t *testing.T) {
	s := twoCached()
	var wants []impl.StepOut
	for _, r := range []impl.Req{issue(30, 3, "abc"), redeem(30, 2, 20, "xyz"), redeem(30, 1, 10, "ab"), refresh(30, 1, 52), revoke(30, 1, 51), ask(30, 1, 53), tick(30, 5)} {
		wants = append(wants, impl.Alone(s, r))
	}
	for i := range 20 {
		t.Run(fmt.Sprintf("reader %d", i), func(t *testing.T) {
			t.Parallel()
			for range 20 {
				for _, want := range wants {
					sameStep(t, "alone", impl.Alone(s, want.Thread.Req), want)
					sameStep(t, "a step", impl.Step(s, at(want.Thread.Req, 5)), stepSlowly(s, at(want.Thread.Req, 5)))
				}
			}
		})
	}
	sameStore(t, "what was handed in", s, twoCached())
}

func FuzzSteps(f *testing.F) {
	f.Add(int64(1), int64(5), int64(0), int64(6))
	f.Add(int64(7), int64(10), int64(9), int64(-1))
	f.Fuzz(func(t *testing.T, seed, pc, lock, ver int64) {
		random := rand.New(rand.NewSource(seed))
		s := anyStore(random)
		th := anyThread(random, s)
		s.Lock, th.Ver, th.Pc = lock, ver, pc
		want := impl.StepOut{Code: impl.ErrForm}
		if storeRightSlowly(s) && 0 <= pc && pc <= 9 && 0 <= ver && ver <= impl.MaxTime {
			want = stepSlowly(s, th)
		}
		steps(t, doing(th), s, th, want)
		alone := impl.Alone(s, th.Req)
		same(t, "alone", alone.Code == impl.OK, storeRightSlowly(s) && lock == 0)
		if alone.Code == impl.OK && honestSlowly(s) {
			aloneAs(t, "alone", s, th.Req)
		}
	})
}
