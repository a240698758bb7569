package tests

import (
	"fmt"
	"math/rand"
	"slices"
	"testing"

	"loop.example/g00842/impl"
)

// P4: the last one's answer is told, and all that comes of all of them.
func TestGrantAll(t *testing.T) {
	g := twoWords()
	wrong := redeem(0, 2, 20, "xyz")
	good := redeem(30, 2, 20, "xyz")
	then := with(g, used(1), keys(newKeys(30, 2, 20, 160, 400)...))
	cases := []struct {
		what string
		l    []impl.Req
		want impl.GrantOut
	}{
		{"none", nil, impl.GrantOut{Grant: g}},
		{"of no length", []impl.Req{}, impl.GrantOut{Grant: g}},
		{"a right one", []impl.Req{good}, impl.GrantOut{Grant: then, Resp: impl.Resp{Token: 301, Next: 302}}},
		{"one that is not right", []impl.Req{wrong}, impl.GrantOut{Grant: g, Resp: impl.Resp{Code: impl.ErrForm}}},
		{"the last one is not right", []impl.Req{good, wrong}, impl.GrantOut{Grant: then, Resp: impl.Resp{Code: impl.ErrForm}}},
		{"the first one is not right", []impl.Req{wrong, {}, good}, impl.GrantOut{Grant: then, Resp: impl.Resp{Token: 301, Next: 302}}},
		{"told nothing behind", []impl.Req{good, tick(31, 5)}, impl.GrantOut{Grant: with(then, atTime(105))}},
		{"told a code behind", []impl.Req{good, good}, impl.GrantOut{Grant: then, Resp: impl.Resp{Code: impl.ErrThere}}},
		{"told yes behind", []impl.Req{good, ask(31, 2, 301)}, impl.GrantOut{Grant: then, Resp: impl.Resp{Yes: true}}},
		{"a code ahead", []impl.Req{redeem(31, 2, 20, "zyx"), good}, impl.GrantOut{Grant: then, Resp: impl.Resp{Token: 301, Next: 302}}},
	}
	for _, c := range cases {
		sameOut(t, c.what, impl.GrantAll(g, c.l), c.want)
		same(t, c.what+", not changed", sameGrant(g, twoWords()), true)
	}
}

// P4: lists of MaxList requests, and one more, which is looked for ahead of all else.
func TestGrantAllSizes(t *testing.T) {
	l := slices.Repeat([]impl.Req{tick(1, 1)}, impl.MaxList)
	sameOut(t, "MaxList", impl.GrantAll(twoWords(), l), impl.GrantOut{Grant: with(twoWords(), atTime(100+impl.MaxList))})
	sameOut(t, "MaxList not right", impl.GrantAll(twoWords(), make([]impl.Req, impl.MaxList)), impl.GrantOut{Grant: twoWords(), Resp: impl.Resp{Code: impl.ErrForm}})
	sameOut(t, "MaxList of no right grant", impl.GrantAll(impl.Grant{Now: -1}, l), impl.GrantOut{Code: impl.ErrForm})
	sameOut(t, "one more", impl.GrantAll(twoWords(), append(l, tick(1, 1))), impl.GrantOut{Code: impl.ErrSize})
	sameOut(t, "one more not right", impl.GrantAll(twoWords(), make([]impl.Req, impl.MaxList+1)), impl.GrantOut{Code: impl.ErrSize})
	sameOut(t, "one more of no right grant", impl.GrantAll(impl.Grant{Now: -1}, make([]impl.Req, impl.MaxList+1)), impl.GrantOut{Code: impl.ErrSize})
	sameOut(t, "many more", impl.GrantAll(impl.Grant{}, make([]impl.Req, 20*impl.MaxList)), impl.GrantOut{Code: impl.ErrSize})
}

// P4: a word is given, redeemed, its key changed, and changed again; then it is told that it was stolen, and all is over.
func TestGrantStory(t *testing.T) {
	story := []struct {
		r    impl.Req
		want impl.Resp
	}{
		{issue(1, 1, "ba"), impl.Resp{Token: 1}},
		{issue(2, 2, "ba"), impl.Resp{Token: 2}},
		{tick(3, 10), impl.Resp{}},
		{redeem(4, 1, 1, "ab"), impl.Resp{Token: 41, Next: 42}},
		{redeem(5, 2, 2, "ab"), impl.Resp{Token: 51, Next: 52}},
		{tick(6, 60), impl.Resp{}},
		{ask(7, 1, 41), impl.Resp{Yes: true}},
		{tick(8, 1), impl.Resp{}},
		{ask(9, 1, 41), impl.Resp{}},
		{refresh(10, 1, 42), impl.Resp{Token: 101, Next: 102}},
		{ask(11, 1, 101), impl.Resp{Yes: true}},
		{revoke(12, 1, 101), impl.Resp{}},
		{ask(13, 1, 101), impl.Resp{}},
		{tick(14, 300), impl.Resp{}},
		{refresh(15, 1, 102), impl.Resp{Token: 151, Next: 152}},
		{ask(16, 1, 151), impl.Resp{Yes: true}},
		{refresh(17, 1, 42), impl.Resp{Code: impl.ErrState}},
		{ask(18, 1, 151), impl.Resp{}},
		{refresh(19, 1, 152), impl.Resp{Code: impl.ErrRange}},
		{refresh(20, 2, 52), impl.Resp{Code: impl.ErrRange}},
		{redeem(21, 2, 2, "ab"), impl.Resp{Code: impl.ErrState}},
		{tick(22, 1), impl.Resp{}},
		{issue(23, 3, "c"), impl.Resp{Token: 23}},
		{tick(24, 11), impl.Resp{}},
		{redeem(25, 3, 23, "c"), impl.Resp{Code: impl.ErrRange}},
	}
	var g impl.Grant
	var l []impl.Req
	for _, s := range story {
		l = append(l, s.r)
		got := impl.GrantDo(g, s.r)
		same(t, named(s.r), got.Resp, s.want)
		sameOut(t, named(s.r)+", of all", impl.GrantAll(impl.Grant{}, l), got)
		g = got.Grant
	}
	same(t, "all dead", slices.Equal(g.Dead, []int64{1, 2}), true)
}

// anyGrant is a right grant, of few numbers, so that much of it meets what is asked.
func anyGrant(random *rand.Rand) impl.Grant {
	g := impl.Grant{Now: []int64{0, 50, 50, 50, impl.MaxTime - 5, impl.MaxTime}[random.Intn(6)]}
	till := func() int64 { return min(max(g.Now+int64(random.Intn(5)-2), 0), impl.MaxTime) }
	many := []int{1, 3, 12, 25}[random.Intn(4)]
	for no := int64(1); no <= 99 && len(g.Words) < impl.MaxCodes; no++ {
		if random.Intn(99) < many*4 {
			g.Words = append(g.Words, impl.Word{No: no, Client: 1 + int64(random.Intn(3)), Shade: []string{"a", "ab", "ba"}[random.Intn(3)], Till: till(), Used: random.Intn(2) == 0})
			if random.Intn(3) == 0 {
				g.Dead = append(g.Dead, no)
			}
		}
	}
	for no := int64(1); no <= 999 && len(g.Words) > 0 && len(g.Keys) < impl.MaxKeys; no++ {
		if random.Intn(99) < many {
			k := impl.Key{No: no, Client: 1 + int64(random.Intn(3)), Fam: g.Words[random.Intn(len(g.Words))].No, Refresh: random.Intn(2) == 0, Till: till(), State: int64(random.Intn(2))}
			if !k.Refresh && k.State == 1 {
				k.State += int64(random.Intn(2))
			}
			g.Keys = append(g.Keys, k)
		}
	}
	return g
}

// anyReq is a right request, that names what is in g more often than not.
func anyReq(random *rand.Rand, g impl.Grant) impl.Req {
	r := impl.Req{No: 1 + int64(random.Intn(99)), Client: 1 + int64(random.Intn(3)), Kind: 1 + int64(random.Intn(6))}
	switch r.Kind {
	case impl.RqIssue:
		r.Proof = []string{"a", "ab", "ba"}[random.Intn(3)]
	case impl.RqRedeem:
		r.Code, r.Proof = 1+int64(random.Intn(99)), []string{"a", "ab", "ba"}[random.Intn(3)]
		if len(g.Words) > 0 && random.Intn(8) > 0 {
			w := g.Words[random.Intn(len(g.Words))]
			r.Code = w.No
			if random.Intn(4) > 0 {
				r.Client, r.Proof = w.Client, impl.Shade(w.Shade)
			}
		}
	case impl.RqTick:
		r.Client, r.By = 0, 1+int64(random.Intn(4))
	default:
		r.Token = 1 + int64(random.Intn(999))
		if len(g.Keys) > 0 && random.Intn(8) > 0 {
			k := g.Keys[random.Intn(len(g.Keys))]
			r.Token = k.No
			if random.Intn(4) > 0 {
				r.Client = k.Client
			}
		}
	}
	return r
}

// P4: a right grant stays right; and what is told and comes of it is as another one tells it, one after the other and all at once.
func TestGrantsStayRight(t *testing.T) {
	random := rand.New(rand.NewSource(4))
	seen := map[string]int{}
	for range 2000 {
		first := anyGrant(random)
		if !rightSlowly(first) || !impl.GrantRight(first) {
			t.Fatalf("not right: %+v", first)
		}
		g := first
		var l []impl.Req
		var last impl.GrantOut
		for range 12 {
			r := anyReq(random, g)
			l = append(l, r)
			got, want := impl.GrantDo(g, r), doSlowly(g, r)
			sameOut(t, named(r), got, want)
			if t.Failed() {
				t.Fatalf("from %+v", g)
			}
			if !rightSlowly(got.Grant) || !impl.GrantRight(got.Grant) {
				t.Fatalf("not right any more: %+v by %+v", got.Grant, r)
			}
			last = want
			seen[fmt.Sprintf("%d of kind %d", got.Resp.Code, r.Kind)]++
			g = got.Grant
		}
		sameOut(t, fmt.Sprintf("%+v from %+v", l, first), impl.GrantAll(first, l), last)
		for _, k := range g.Keys {
			s := slowGrant{g}
			same(t, "opens", impl.Opens(g, k.No, k.Client), s.opens(k.No, k.Client))
		}
	}
	for kind, codes := range map[int][]int{
		impl.RqIssue: {0, impl.ErrFull, impl.ErrThere}, impl.RqRedeem: {0, impl.ErrFull, impl.ErrThere, impl.ErrNone, impl.ErrState, impl.ErrRange},
		impl.RqRefresh: {0, impl.ErrFull, impl.ErrThere, impl.ErrNone, impl.ErrState, impl.ErrRange}, impl.RqRevoke: {0}, impl.RqAsk: {0}, impl.RqTick: {0},
	} {
		for _, code := range codes {
			if what := fmt.Sprintf("%d of kind %d", code, kind); seen[what] < 50 {
				t.Errorf("%s came %d times alone", what, seen[what])
			}
		}
	}
}

// P4: a grant with one number turned is right or not as another one tells it.
func TestGrantsTurned(t *testing.T) {
	random := rand.New(rand.NewSource(5))
	number := func() int64 {
		return []int64{-1, 0, 1, 2, 3, 4, 20, 99, 100, 999, 1000, impl.MaxTime, impl.MaxTime + 1}[random.Intn(13)]
	}
	right := 0
	for range 20000 {
		g := anyGrant(random)
		turnOne(random, &g, number())
		want := rightSlowly(g)
		if got := impl.GrantRight(g); got != want {
			t.Fatalf("got %t of %+v", got, g)
		}
		if want {
			right++
			continue
		}
		sameOut(t, fmt.Sprintf("%+v", g), impl.GrantDo(g, tick(1, 1)), impl.GrantOut{Code: impl.ErrForm})
	}
	same(t, "both come", right > 1000 && right < 19000, true)
}

// turnOne sets one number of g to n.
func turnOne(random *rand.Rand, g *impl.Grant, n int64) {
	var all []*int64
	all = append(all, &g.Now)
	for i := range g.Dead {
		all = append(all, &g.Dead[i])
	}
	if len(g.Words) > 0 {
		w := &g.Words[random.Intn(len(g.Words))]
		all = append(all, &w.No, &w.Client, &w.Till)
	}
	if len(g.Keys) > 0 {
		k := &g.Keys[random.Intn(len(g.Keys))]
		all = append(all, &k.No, &k.Client, &k.Fam, &k.Till, &k.State)
	}
	*all[random.Intn(len(all))] = n
}

// P4: an answer is new memory, and what is handed in is not changed, nor anything behind it.
func TestGrantsAreNew(t *testing.T) {
	random := rand.New(rand.NewSource(6))
	for range 500 {
		g := anyGrant(random)
		// Room behind each list: what is put there would be seen.
		g.Words, g.Keys, g.Dead = slices.Grow(g.Words, 4), slices.Grow(g.Keys, 4), slices.Grow(g.Dead, 4)
		whole := func() string {
			return fmt.Sprintf("%d %v %v %v", g.Now, g.Words[:cap(g.Words)], g.Keys[:cap(g.Keys)], g.Dead[:cap(g.Dead)])
		}
		before := whole()
		l := []impl.Req{anyReq(random, g), {}, anyReq(random, g)}
		asked := slices.Clone(l)
		for _, out := range []impl.GrantOut{impl.GrantDo(g, l[0]), impl.GrantAll(g, l), impl.GrantAll(g, nil)} {
			for i := range out.Grant.Words {
				out.Grant.Words[i].No = -1
			}
			for i := range out.Grant.Keys {
				out.Grant.Keys[i].No = -1
			}
			for i := range out.Grant.Dead {
				out.Grant.Dead[i] = -1
			}
		}
		same(t, "what was handed in", whole(), before)
		same(t, "what was asked", slices.Equal(l, asked), true)
	}
	shade := string([]byte("abcdefgh"))
	g := impl.Grant{Words: []impl.Word{{No: 1, Client: 1, Shade: shade}}}
	same(t, "a shade", shares(impl.GrantDo(g, tick(1, 1)).Grant.Words[0].Shade, shade), false)
	same(t, "a proof", shares(impl.GrantDo(impl.Grant{}, issue(1, 1, shade)).Grant.Words[0].Shade, shade), false)
}

// P4: the same is told to many who ask at the same time.
func TestGrantsAtOnce(t *testing.T) {
	g := twoWords()
	want := with(g, used(1), keys(newKeys(30, 2, 20, 160, 400)...))
	for i := range 20 {
		t.Run(fmt.Sprintf("reader %d", i), func(t *testing.T) {
			t.Parallel()
			for range 20 {
				sameOut(t, "redeemed", impl.GrantDo(g, redeem(30, 2, 20, "xyz")), impl.GrantOut{Grant: want, Resp: impl.Resp{Token: 301, Next: 302}})
			}
		})
	}
}

func FuzzGrants(f *testing.F) {
	f.Add(int64(1), 5)
	f.Add(int64(7), 40)
	f.Fuzz(func(t *testing.T, seed int64, many int) {
		random := rand.New(rand.NewSource(seed))
		g := anyGrant(random)
		for range max(0, min(many, 100)) {
			r := anyReq(random, g)
			want := doSlowly(g, r)
			sameOut(t, fmt.Sprintf("%+v from %+v", r, g), impl.GrantDo(g, r), want)
			g = want.Grant
		}
	})
}
