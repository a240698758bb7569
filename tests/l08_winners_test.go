package tests

import (
	"fmt"
	"math"
	"math/rand"
	"testing"

	"loop.example/g00842/impl"
)

// wins fails the test where not so many are told to have won each word, or where what is asked of is changed.
func wins(t *testing.T, what string, l []impl.Req, log []impl.Event, want map[int64]int64) {
	t.Helper()
	before := fmt.Sprint(l, log)
	for code := int64(-1); code <= 100; code++ {
		same(t, fmt.Sprint(what, ", of ", code), impl.Winners(l, log, code), want[code])
		same(t, fmt.Sprint(what, ", of ", code, ", told in another way"), winnersSlowly(l, log, code), want[code])
	}
	for _, code := range []int64{math.MinInt64, math.MaxInt64, 1<<32 + 20, 256 + 20} {
		same(t, fmt.Sprint(what, ", of ", code), impl.Winners(l, log, code), int64(0))
	}
	same(t, what+", what was handed in", fmt.Sprint(l, log), before)
}

// P6: those win a word that redeem it and returned with OK, whatever else they are told.
func TestWinners(t *testing.T) {
	l := []impl.Req{redeem(1, 2, 20, "xyz"), redeem(2, 2, 20, "xyz"), redeem(3, 1, 10, "ab"), redeem(1, 3, 20, "a"), redeem(99, 1, 99, "a"), redeem(98, 1, 1, "a")}
	won := toldKeys(1)
	for what, c := range map[string]struct {
		log  []impl.Event
		want map[int64]int64
	}{
		"no events":                       {nil, nil},
		"an empty list":                   {[]impl.Event{}, nil},
		"nothing returned":                {allBegun(6), nil},
		"one":                             {allBegun(3, returned(0, won)), map[int64]int64{20: 1}},
		"another one":                     {allBegun(3, returned(1, won)), map[int64]int64{20: 1}},
		"one each":                        {allBegun(3, returned(2, won), returned(0, won)), map[int64]int64{10: 1, 20: 1}},
		"one, and one lost":               {allBegun(3, returned(0, won), returned(1, toldLost)), map[int64]int64{20: 1}},
		"both, as no run has it":          {allBegun(3, returned(0, won), returned(1, won)), map[int64]int64{20: 2}},
		"three of them":                   {allBegun(6, returned(0, won), returned(1, won), returned(3, won)), map[int64]int64{20: 3}},
		"all of them":                     {allBegun(6, returned(4, won), returned(5, won), returned(0, won), returned(1, won), returned(2, won), returned(3, won)), map[int64]int64{1: 1, 10: 1, 20: 3, 99: 1}},
		"of the last word":                {allBegun(6, returned(4, won)), map[int64]int64{99: 1}},
		"of the first word":               {allBegun(6, returned(5, won)), map[int64]int64{1: 1}},
		"lost":                            {allBegun(3, returned(0, toldLost), returned(1, toldLost), returned(2, toldLost)), nil},
		"refused, with keys all the same": {allBegun(1, returned(0, impl.Resp{Code: impl.ErrForm, Token: 11, Next: 12})), nil},
		"below 0":                         {allBegun(1, returned(0, impl.Resp{Code: -1})), nil},
		"OK, and no keys":                 {allBegun(1, returned(0, impl.Resp{})), map[int64]int64{20: 1}},
		"OK, and yes":                     {allBegun(1, returned(0, toldYes)), map[int64]int64{20: 1}},
	} {
		wins(t, what, l, c.log, c.want)
	}
	// Those of other kinds win nothing, also where they have the number of a word, or none.
	for text, r := range rightReqs() {
		want := map[int64]int64{}
		if r.Kind == impl.RqRedeem {
			want[r.Code] = 1
		}
		wins(t, text, []impl.Req{r}, allBegun(1, returned(0, won)), want)
	}
	six := []impl.Req{issue(20, 1, "ba"), refresh(20, 1, 20), revoke(20, 1, 20), ask(20, 1, 20), tick(20, 20), redeem(20, 1, 2, "ba")}
	wins(t, "what has that number", six, allBegun(6, returned(0, won), returned(1, won), returned(2, toldNo), returned(3, toldYes), returned(4, toldNo), returned(5, won)), map[int64]int64{2: 1})
}

// P6: of one word one wins at most in each log that has an order, from a grant on in which it may be won; and Winners tells how many
// whatever was returned.
func TestWinnersAtRandom(t *testing.T) {
	random := rand.New(rand.NewSource(32))
	seen := map[int64]int{}
	for range 1500 {
		many := 1 + random.Intn(impl.MaxThreads)
		g, l, log := anyCalls(random, many)
		for _, r := range l {
			n := impl.Winners(l, log, r.Code)
			if n > 1 {
				t.Fatalf("%d won %d: %v %v %v", n, r.Code, g, l, log)
			}
			seen[n]++
		}
		for range random.Intn(3) {
			log = turnLog(random, log, many)
		}
		for code := int64(-1); code <= 100; code++ {
			if got, want := impl.Winners(l, log, code), winnersSlowly(l, log, code); got != want {
				t.Fatalf("%d won %d, not %d: %v %v", got, code, want, l, log)
			}
		}
	}
	same(t, "some won", seen[0] > 500 && seen[1] > 100, true)
}
