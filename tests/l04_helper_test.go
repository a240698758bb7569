package tests

import (
	"fmt"
	"slices"
	"testing"

	"loop.example/g00842/impl"
)

// sameGrant tells whether two grants are alike; an empty list and none are the same.
func sameGrant(a, b impl.Grant) bool {
	return a.Now == b.Now && slices.Equal(a.Words, b.Words) && slices.Equal(a.Keys, b.Keys) && slices.Equal(a.Dead, b.Dead)
}

// sameOut fails the test where got is not want.
func sameOut(t *testing.T, what string, got, want impl.GrantOut) {
	t.Helper()
	if got.Code != want.Code || got.Resp != want.Resp || !sameGrant(got.Grant, want.Grant) {
		t.Errorf("%s:\n got %+v\nwant %+v", what, got, want)
	}
}

// told fails the test where of r, done from g on, not that is told and comes, or where g is changed by that.
func told(t *testing.T, what string, g impl.Grant, r impl.Req, resp impl.Resp, then impl.Grant) {
	t.Helper()
	before := copyOf(g)
	sameOut(t, what, impl.GrantDo(g, r), impl.GrantOut{Grant: then, Resp: resp})
	sameOut(t, what+", of all", impl.GrantAll(g, []impl.Req{r}), impl.GrantOut{Grant: then, Resp: resp})
	if !sameGrant(g, before) {
		t.Errorf("%s: what was handed in is %+v now, and was %+v", what, g, before)
	}
}

// toldCode is told, of a code beside which nothing comes of r.
func toldCode(t *testing.T, what string, g impl.Grant, r impl.Req, code int64) {
	t.Helper()
	told(t, what, g, r, impl.Resp{Code: code}, g)
}

// copyOf is g in memory of its own.
func copyOf(g impl.Grant) impl.Grant {
	return impl.Grant{Now: g.Now, Words: slices.Clone(g.Words), Keys: slices.Clone(g.Keys), Dead: slices.Clone(g.Dead)}
}

// with is a copy of g that is changed by all of these.
func with(g impl.Grant, changes ...func(*impl.Grant)) impl.Grant {
	g = copyOf(g)
	for _, change := range changes {
		change(&g)
	}
	return g
}

// atTime sets Now.
func atTime(now int64) func(*impl.Grant) { return func(g *impl.Grant) { g.Now = now } }

// dead sets Dead.
func dead(l ...int64) func(*impl.Grant) { return func(g *impl.Grant) { g.Dead = l } }

// state sets the State of the key at that place.
func state(at int, n int64) func(*impl.Grant) { return func(g *impl.Grant) { g.Keys[at].State = n } }

// used sets the word at that place to be used.
func used(at int) func(*impl.Grant) { return func(g *impl.Grant) { g.Words[at].Used = true } }

// keys puts these keys among the others.
func keys(l ...impl.Key) func(*impl.Grant) {
	return func(g *impl.Grant) {
		g.Keys = append(g.Keys, l...)
		slices.SortFunc(g.Keys, func(a, b impl.Key) int { return int(a.No - b.No) })
	}
}

// words puts these words among the others.
func words(l ...impl.Word) func(*impl.Grant) {
	return func(g *impl.Grant) {
		g.Words = append(g.Words, l...)
		slices.SortFunc(g.Words, func(a, b impl.Word) int { return int(a.No - b.No) })
	}
}

// Requests of each kind.
func issue(no, client int64, proof string) impl.Req {
	return impl.Req{No: no, Kind: impl.RqIssue, Client: client, Proof: proof}
}

func redeem(no, client, code int64, proof string) impl.Req {
	return impl.Req{No: no, Kind: impl.RqRedeem, Client: client, Code: code, Proof: proof}
}

func refresh(no, client, token int64) impl.Req {
	return impl.Req{No: no, Kind: impl.RqRefresh, Client: client, Token: token}
}

func revoke(no, client, token int64) impl.Req {
	return impl.Req{No: no, Kind: impl.RqRevoke, Client: client, Token: token}
}

func ask(no, client, token int64) impl.Req {
	return impl.Req{No: no, Kind: impl.RqAsk, Client: client, Token: token}
}

func tick(no, by int64) impl.Req {
	return impl.Req{No: no, Kind: impl.RqTick, By: by}
}

// twoWords is a grant at 100 of a used word (10, of client 1, with keys 51 and 52), and one that is not used (20, of client 2).
func twoWords() impl.Grant {
	return impl.Grant{
		Now: 100,
		Words: []impl.Word{
			{No: 10, Client: 1, Shade: "ba", Till: 105, Used: true},
			{No: 20, Client: 2, Shade: "zyx", Till: 103},
		},
		Keys: []impl.Key{
			{No: 51, Client: 1, Fam: 10, Till: 120},
			{No: 52, Client: 1, Fam: 10, Refresh: true, Till: 140},
		},
	}
}

// manyWords is n words of client 1, of the Nos from 1 on.
func manyWords(n int) []impl.Word {
	var out []impl.Word
	for i := range n {
		out = append(out, impl.Word{No: int64(i + 1), Client: 1, Shade: "ba", Till: 5})
	}
	return out
}

// manyKeys is n keys of client 1 and the word 1, of the Nos from 101 on; each second one is a refresh.
func manyKeys(n int) []impl.Key {
	var out []impl.Key
	for i := range n {
		out = append(out, impl.Key{No: int64(i + 101), Client: 1, Fam: 1, Refresh: i%2 == 1, Till: 5})
	}
	return out
}

// rightSlowly is what GrantRight has to tell, told in another way.
func rightSlowly(g impl.Grant) bool {
	time := func(n int64) bool { return 0 <= n && n <= 1000000 }
	ok := time(g.Now) && len(g.Words) <= 20 && len(g.Keys) <= 40
	named := map[int64]bool{}
	for i, w := range g.Words {
		ok = ok && w.No >= 1 && w.No <= 99 && w.Client >= 1 && w.Client <= 3 && time(w.Till) && proofPattern.MatchString(w.Shade)
		ok = ok && (i == 0 || w.No > g.Words[i-1].No)
		named[w.No] = true
	}
	for i, k := range g.Keys {
		ok = ok && k.No >= 1 && k.No <= 999 && k.Client >= 1 && k.Client <= 3 && named[k.Fam] && time(k.Till)
		ok = ok && (k.State == 0 || k.State == 1 || k.State == 2 && !k.Refresh) && (i == 0 || k.No > g.Keys[i-1].No)
	}
	for i, no := range g.Dead {
		ok = ok && named[no] && (i == 0 || no > g.Dead[i-1])
	}
	return ok
}

// doSlowly is what GrantDo has to tell of a right grant and a right request, told in another way: lists, and no numbers but whole ones.
func doSlowly(g impl.Grant, r impl.Req) impl.GrantOut {
	s := slowGrant{copyOf(g)}
	resp := s.serve(r)
	slices.SortFunc(s.g.Words, func(a, b impl.Word) int { return int(a.No - b.No) })
	slices.SortFunc(s.g.Keys, func(a, b impl.Key) int { return int(a.No - b.No) })
	slices.Sort(s.g.Dead)
	s.g.Dead = slices.Compact(s.g.Dead)
	return impl.GrantOut{Grant: s.g, Resp: resp}
}

// slowGrant is a grant whose lists are gone through each time.
type slowGrant struct{ g impl.Grant }

func (s *slowGrant) key(no int64) *impl.Key {
	for i := range s.g.Keys {
		if s.g.Keys[i].No == no {
			return &s.g.Keys[i]
		}
	}
	return nil
}

func (s *slowGrant) word(no int64) *impl.Word {
	for i := range s.g.Words {
		if s.g.Words[i].No == no {
			return &s.g.Words[i]
		}
	}
	return nil
}

func (s *slowGrant) opens(no, client int64) bool {
	k := s.key(no)
	return k != nil && k.Client == client && k.State == 0 && s.g.Now <= k.Till && !slices.Contains(s.g.Dead, k.Fam)
}

func (s *slowGrant) serve(r impl.Req) impl.Resp {
	k := s.key(r.Token)
	if k != nil && k.Client != r.Client {
		k = nil
	}
	switch r.Kind {
	case impl.RqIssue:
		switch {
		case len(s.g.Words) == 20:
			return impl.Resp{Code: impl.ErrFull}
		case s.word(r.No) != nil:
			return impl.Resp{Code: impl.ErrThere}
		}
		s.g.Words = append(s.g.Words, impl.Word{No: r.No, Client: r.Client, Shade: r.Proof, Till: min(s.g.Now+10, 1000000)})
		return impl.Resp{Token: r.No}
	case impl.RqRedeem, impl.RqRefresh:
		switch {
		case len(s.g.Keys) >= 39:
			return impl.Resp{Code: impl.ErrFull}
		case s.key(r.No*10+1) != nil || s.key(r.No*10+2) != nil:
			return impl.Resp{Code: impl.ErrThere}
		}
		fam, code := s.spend(r, k)
		if code != impl.OK {
			return impl.Resp{Code: code}
		}
		s.g.Keys = append(s.g.Keys,
			impl.Key{No: r.No*10 + 1, Client: r.Client, Fam: fam, Till: min(s.g.Now+60, 1000000)},
			impl.Key{No: r.No*10 + 2, Client: r.Client, Fam: fam, Refresh: true, Till: min(s.g.Now+300, 1000000)})
		return impl.Resp{Token: r.No*10 + 1, Next: r.No*10 + 2}
	case impl.RqRevoke:
		if k != nil && k.Refresh {
			s.g.Dead = append(s.g.Dead, k.Fam)
		} else if k != nil {
			k.State = 2
		}
	case impl.RqAsk:
		return impl.Resp{Yes: s.opens(r.Token, r.Client)}
	case impl.RqTick:
		s.g.Now = min(s.g.Now+r.By, 1000000)
	}
	return impl.Resp{}
}

// spend is the family of the word or key that r comes with, or the code that is told; k is the key of r, if there is one.
func (s *slowGrant) spend(r impl.Req, k *impl.Key) (int64, int64) {
	if r.Kind == impl.RqRedeem {
		w := s.word(r.Code)
		switch {
		case w == nil || w.Client != r.Client || w.Shade != impl.Shade(r.Proof):
			return 0, impl.ErrNone
		case w.Used:
			s.g.Dead = append(s.g.Dead, w.No)
			return 0, impl.ErrState
		case s.g.Now > w.Till || slices.Contains(s.g.Dead, w.No):
			return 0, impl.ErrRange
		}
		w.Used = true
		return w.No, impl.OK
	}
	switch {
	case k == nil || !k.Refresh:
		return 0, impl.ErrNone
	case k.State == 1:
		s.g.Dead = append(s.g.Dead, k.Fam)
		return 0, impl.ErrState
	case !s.opens(k.No, k.Client):
		return 0, impl.ErrRange
	}
	k.State = 1
	return k.Fam, impl.OK
}

// named is a text by which a request can be told from others.
func named(r impl.Req) string {
	return fmt.Sprintf("%+v", r)
}
