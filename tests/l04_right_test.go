package tests

import (
	"math"
	"regexp"
	"strconv"
	"strings"
	"testing"

	"loop.example/g00842/impl"
)

// proofPattern is what a Shade looks like.
var proofPattern = regexp.MustCompile(`^[a-z]{1,8}\z`)

// sameRight fails the test where g is not told to be right, or not, by all that ask.
func sameRight(t *testing.T, what string, g impl.Grant, want bool) {
	t.Helper()
	same(t, what, impl.GrantRight(g), want)
	code := int64(impl.ErrForm)
	if want {
		code = impl.OK
	}
	for _, r := range rightReqs() {
		got := impl.GrantDo(g, r)
		same(t, what+", done", got.Code, code)
		if !want {
			sameOut(t, what+", done", got, impl.GrantOut{Code: impl.ErrForm})
		}
		if want && !impl.GrantRight(got.Grant) {
			t.Errorf("%s: no right grant comes of %s: %+v", what, named(r), got.Grant)
		}
	}
	same(t, what+", all", impl.GrantAll(g, nil).Code, code)
	if want {
		sameOut(t, what+", all", impl.GrantAll(g, nil), impl.GrantOut{Grant: g})
		return
	}
	sameOut(t, what+", all", impl.GrantAll(g, []impl.Req{issue(1, 1, "a"), tick(2, 5)}), impl.GrantOut{Code: impl.ErrForm})
	for _, k := range g.Keys {
		same(t, what+", opens", impl.Opens(g, k.No, k.Client), false)
	}
}

// P4: grants that are right.
func TestGrantRight(t *testing.T) {
	sameRight(t, "none", impl.Grant{}, true)
	sameRight(t, "of empty lists", impl.Grant{Words: []impl.Word{}, Keys: []impl.Key{}, Dead: []int64{}}, true)
	sameRight(t, "two words", twoWords(), true)
	sameRight(t, "one dead", with(twoWords(), dead(20)), true)
	sameRight(t, "all dead", with(twoWords(), dead(10, 20)), true)
	sameRight(t, "a key of another client than its word's", with(twoWords(), keys(impl.Key{No: 1, Client: 3, Fam: 20})), true)
	sameRight(t, "a key of a word that is not used", with(twoWords(), keys(impl.Key{No: 999, Client: 1, Fam: 20, Till: impl.MaxTime})), true)
}

// P4: each number of a grant at its least and greatest, and beyond.
func TestGrantNumbers(t *testing.T) {
	cases := []struct {
		what        string
		least, most int64
		set         func(g *impl.Grant, n int64)
	}{
		{"Now", 0, impl.MaxTime, func(g *impl.Grant, n int64) { g.Now = n }},
		{"No of a word", 1, 99, func(g *impl.Grant, n int64) { g.Words, g.Keys = g.Words[1:], nil; g.Words[0].No = n }},
		{"No of the first word", 1, 19, func(g *impl.Grant, n int64) { g.Words[0].No, g.Keys = n, nil }},
		{"No of the last word", 11, 99, func(g *impl.Grant, n int64) { g.Words[1].No = n }},
		{"Client of a word", 1, 3, func(g *impl.Grant, n int64) { g.Words[1].Client = n }},
		{"Till of a word", 0, impl.MaxTime, func(g *impl.Grant, n int64) { g.Words[0].Till = n }},
		{"No of a key", 1, 999, func(g *impl.Grant, n int64) { g.Keys = g.Keys[1:]; g.Keys[0].No = n }},
		{"No of the first key", 1, 51, func(g *impl.Grant, n int64) { g.Keys[0].No = n }},
		{"No of the last key", 52, 999, func(g *impl.Grant, n int64) { g.Keys[1].No = n }},
		{"Client of a key", 1, 3, func(g *impl.Grant, n int64) { g.Keys[0].Client = n }},
		{"Fam of a key", 10, 10, func(g *impl.Grant, n int64) { g.Keys[1].Fam = n }},
		{"Till of a key", 0, impl.MaxTime, func(g *impl.Grant, n int64) { g.Keys[1].Till = n }},
		{"State of a key", 0, 2, func(g *impl.Grant, n int64) { g.Keys[0].State = n }},
		{"State of a refresh", 0, 1, func(g *impl.Grant, n int64) { g.Keys[1].State = n }},
		{"Dead", 10, 10, func(g *impl.Grant, n int64) { g.Dead = []int64{n} }},
		{"Dead behind another", 20, 20, func(g *impl.Grant, n int64) { g.Dead = []int64{10, n} }},
	}
	for _, c := range cases {
		for _, n := range []int64{c.least, c.most} {
			sameRight(t, c.what+" "+strconv.FormatInt(n, 10), with(twoWords(), func(g *impl.Grant) { c.set(g, n) }), true)
		}
		for _, n := range []int64{c.least - 1, c.most + 1, -c.most, c.most + 256, c.most + 1<<32, 1 << 53, 1<<53 + 1, math.MaxInt64, math.MinInt64} {
			sameRight(t, c.what+" "+strconv.FormatInt(n, 10), with(twoWords(), func(g *impl.Grant) { c.set(g, n) }), false)
		}
	}
}

// P4: the shades of words.
func TestGrantShades(t *testing.T) {
	set := func(shade string) impl.Grant {
		return with(twoWords(), func(g *impl.Grant) { g.Words[1].Shade = shade })
	}
	for n := range 10 {
		sameRight(t, strconv.Itoa(n)+" bytes", set("abcdefghi"[:n]), n >= 1 && n <= 8)
	}
	for b := range 256 {
		for _, shade := range []string{string([]byte{byte(b)}), "a" + string([]byte{byte(b)}), string([]byte{byte(b)}) + "abcdefg"} {
			same(t, strconv.Quote(shade), impl.GrantRight(set(shade)), b >= 'a' && b <= 'z')
		}
	}
	for _, shade := range []string{"é", "A", "a1", "a_", " ", "\x00", strings.Repeat("a", impl.MaxBytes+1)} {
		same(t, strconv.Itoa(len(shade))+" bytes", impl.GrantRight(set(shade)), false)
	}
}

// P4: lists at their greatest length, and one more; fields are not refused by their size.
func TestGrantLengths(t *testing.T) {
	full := impl.Grant{Words: manyWords(impl.MaxCodes), Keys: manyKeys(impl.MaxKeys)}
	for n := range int64(impl.MaxCodes) {
		full.Dead = append(full.Dead, n+1)
	}
	sameRight(t, "all full", full, true)
	sameRight(t, "one word more", with(full, func(g *impl.Grant) { g.Words = manyWords(impl.MaxCodes + 1) }), false)
	sameRight(t, "one key more", with(full, func(g *impl.Grant) { g.Keys = manyKeys(impl.MaxKeys + 1) }), false)
	sameRight(t, "one dead more", with(full, func(g *impl.Grant) { g.Dead = append(g.Dead, impl.MaxCodes+1) }), false)
	sameRight(t, "one dead twice", with(full, func(g *impl.Grant) { g.Dead = append(g.Dead, impl.MaxCodes) }), false)
	sameRight(t, "too long words", impl.Grant{Words: make([]impl.Word, impl.MaxList+1)}, false)
	sameRight(t, "too long keys", with(full, func(g *impl.Grant) { g.Keys = make([]impl.Key, impl.MaxList+1) }), false)
	sameRight(t, "too long dead", with(full, func(g *impl.Grant) { g.Dead = make([]int64, impl.MaxList+1) }), false)
}

// P4: lists that do not rise, and numbers that are no word's.
func TestGrantOrder(t *testing.T) {
	g := twoWords()
	sameRight(t, "words turned", with(g, func(g *impl.Grant) { g.Words[0], g.Words[1] = g.Words[1], g.Words[0] }), false)
	sameRight(t, "keys turned", with(g, func(g *impl.Grant) { g.Keys[0], g.Keys[1] = g.Keys[1], g.Keys[0] }), false)
	sameRight(t, "a word twice", with(g, words(g.Words[1])), false)
	sameRight(t, "a key twice", with(g, keys(g.Keys[1])), false)
	sameRight(t, "dead turned", with(g, dead(20, 10)), false)
	sameRight(t, "dead twice", with(g, dead(10, 10)), false)
	sameRight(t, "dead that is a key", with(g, dead(51)), false)
	sameRight(t, "dead of no words", impl.Grant{Dead: []int64{1}}, false)
	sameRight(t, "dead 0 of no words", impl.Grant{Dead: []int64{0}}, false)
	sameRight(t, "a key of no words", impl.Grant{Keys: []impl.Key{{No: 1, Client: 1}}}, false)
	sameRight(t, "a zero word", impl.Grant{Words: make([]impl.Word, 1)}, false)
	sameRight(t, "a zero key", with(g, keys(impl.Key{})), false)
}

// P4: what is asked of a right grant is refused where the request is not right, and nothing comes of it.
func TestGrantDoWrongReqs(t *testing.T) {
	for _, r := range wrongReqs() {
		sameOut(t, named(r), impl.GrantDo(twoWords(), r), impl.GrantOut{Code: impl.ErrForm})
		sameOut(t, named(r)+" of none", impl.GrantDo(impl.Grant{}, r), impl.GrantOut{Code: impl.ErrForm})
		sameOut(t, named(r)+" of a wrong one", impl.GrantDo(impl.Grant{Now: -1}, r), impl.GrantOut{Code: impl.ErrForm})
	}
}

// wrongReqs is requests that are not right.
func wrongReqs() []impl.Req {
	return []impl.Req{
		{}, {No: 1}, issue(0, 1, "a"), issue(100, 1, "a"), issue(30, 0, "a"), issue(30, 4, "a"), issue(30, 1, ""), issue(30, 1, "abcdefghi"), issue(30, 1, "A"),
		redeem(-1, 2, 20, "xyz"), redeem(30, 2, 0, "xyz"), redeem(30, 2, 100, "xyz"), redeem(30, 2, 20, ""), refresh(30, 1, 0), refresh(30, 1, 1000), refresh(30, 0, 52),
		revoke(0, 1, 52), revoke(30, 4, 52), revoke(30, 1, 1000), ask(100, 1, 51), ask(30, 1, -51), tick(30, 0), tick(30, -1), tick(30, 1001), tick(0, 1),
		{No: 30, Kind: 7, Client: 1}, {No: 30, Kind: impl.RqTick, By: 5, Client: 1}, {No: 30, Kind: impl.RqAsk, Client: 1, Token: 51, Code: 10},
		{No: 30, Kind: impl.RqIssue, Client: 1, Proof: "a", Token: 1}, {No: 30, Kind: impl.RqRefresh, Client: 1, Token: 52, Proof: "a"},
	}
}
