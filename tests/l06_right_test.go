package tests

import (
	"fmt"
	"math"
	"testing"

	"loop.example/g00842/impl"
)

// sameThreadRight fails the test where th is not told to be right, or not, by all that ask.
func sameThreadRight(t *testing.T, what string, th impl.Thread, want bool) {
	t.Helper()
	same(t, what, impl.ThreadRight(th), want)
	got := impl.Step(twoCached(), th)
	if !want {
		sameStep(t, what+", a step", got, impl.StepOut{Code: impl.ErrForm})
		return
	}
	if th.Done {
		sameStep(t, what+", a step", got, impl.StepOut{Code: impl.ErrState})
		return
	}
	sameStep(t, what+", a step", got, stepSlowly(twoCached(), th))
}

// P5: threads that are right, of each kind, at each step.
func TestThreadRight(t *testing.T) {
	for text, r := range rightReqs() {
		for pc := range int64(10) {
			what := fmt.Sprint(text, " at ", pc)
			sameThreadRight(t, what, impl.Thread{Req: r, Pc: pc}, true)
			sameThreadRight(t, what+", with all", at(r, pc), true)
			done := at(r, pc)
			done.Done = true
			sameThreadRight(t, what+", done", done, true)
		}
		for _, resp := range []impl.Resp{{Code: -1}, {Code: math.MaxInt64}, {Token: -1, Next: -1}, {Yes: true}} {
			sameThreadRight(t, fmt.Sprintf("%s, told %+v", text, resp), impl.Thread{Req: r, Resp: resp}, true)
		}
	}
}

// P5: each number of a thread at its least and greatest, and beyond.
func TestThreadNumbers(t *testing.T) {
	for what, c := range map[string]struct {
		most int64
		set  func(th *impl.Thread, n int64)
	}{
		"Pc":   {9, func(th *impl.Thread, n int64) { th.Pc = n }},
		"Ver":  {impl.MaxTime, func(th *impl.Thread, n int64) { th.Ver = n }},
		"Till": {impl.MaxTime, func(th *impl.Thread, n int64) { th.Till = n }},
	} {
		for text, r := range rightReqs() {
			for _, n := range []int64{math.MinInt64, -1 << 32, -1, 0, 1, c.most - 1, c.most, c.most + 1, c.most + 1<<32, math.MaxInt64} {
				th := impl.Thread{Req: r}
				c.set(&th, n)
				sameThreadRight(t, fmt.Sprint(text, ", ", what, " ", n), th, 0 <= n && n <= c.most)
			}
		}
	}
}

// P5: a request that is not right has no right thread, and is not served.
func TestThreadOfWrong(t *testing.T) {
	for _, r := range wrongReqs() {
		sameThreadRight(t, named(r), impl.Thread{Req: r}, false)
		sameThreadRight(t, named(r)+", done", impl.Thread{Req: r, Done: true}, false)
		same(t, named(r)+", new", impl.ThreadNew(r), impl.Thread{})
		sameStep(t, named(r)+", alone", impl.Alone(twoCached(), r), impl.StepOut{Code: impl.ErrForm})
	}
}

// P5: a thread begins with nothing but its request.
func TestThreadNew(t *testing.T) {
	for text, r := range rightReqs() {
		same(t, text, impl.ThreadNew(r), impl.Thread{Req: r})
	}
	eachReq(func(r impl.Req) {
		want := impl.Thread{}
		if impl.ReqRight(r) {
			want.Req = r
		}
		same(t, named(r), impl.ThreadNew(r), want)
	})
}

// P5: a store that is not right in one of its parts takes no step, and serves nobody; nor does it where the thread is done.
func TestStepOnWrongStore(t *testing.T) {
	for what, s := range wrongStores() {
		for text, r := range rightReqs() {
			for pc := range int64(10) {
				steps(t, fmt.Sprint(what, ", ", text, " at ", pc), s, at(r, pc), impl.StepOut{Code: impl.ErrForm})
			}
			steps(t, what+", done, "+text, s, impl.Thread{Req: r, Done: true}, impl.StepOut{Code: impl.ErrForm})
			sameStep(t, what+", alone, "+text, impl.Alone(s, r), impl.StepOut{Code: impl.ErrForm})
		}
		steps(t, what+", the zero thread", s, impl.Thread{}, impl.StepOut{Code: impl.ErrForm})
	}
}

// P5: who is done takes no step more, whatever the step would be, and whoever has the lock.
func TestStepDone(t *testing.T) {
	for text, r := range rightReqs() {
		for pc := range int64(10) {
			th := at(r, pc)
			th.Done = true
			steps(t, fmt.Sprint(text, " at ", pc), twoCached(), th, impl.StepOut{Code: impl.ErrState})
			steps(t, fmt.Sprint(text, " at ", pc, ", locked"), store(twoCached(), locked(7)), th, impl.StepOut{Code: impl.ErrState})
		}
		last := impl.Alone(impl.Store{}, r)
		steps(t, text+", served", last.Store, last.Thread, impl.StepOut{Code: impl.ErrState})
	}
}

// P5: nobody is alone where another one has the lock, whatever is asked.
func TestAloneLocked(t *testing.T) {
	for text, r := range rightReqs() {
		for _, lock := range []int64{1, 2, r.No, 50, 99, 100, -1, math.MaxInt64, math.MinInt64} {
			s := store(twoCached(), locked(lock))
			sameStep(t, fmt.Sprint(text, ", locked by ", lock), impl.Alone(s, r), impl.StepOut{Code: impl.ErrForm})
		}
		same(t, text+", not locked", impl.Alone(twoCached(), r).Code, int64(impl.OK))
	}
	sameStep(t, "locked, and no right request", impl.Alone(store(twoCached(), locked(1)), impl.Req{}), impl.StepOut{Code: impl.ErrForm})
}
