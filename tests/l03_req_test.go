package tests

import (
	"fmt"
	"math"
	"strconv"
	"strings"
	"testing"

	"loop.example/g00842/impl"
)

// sameReq fails the test where r is not asked as right, or not written, as that text says; the empty one is no request's.
func sameReq(t *testing.T, r impl.Req, text string) {
	t.Helper()
	what := fmt.Sprintf("%+v", r)
	same(t, what+", right", impl.ReqRight(r), text != "")
	same(t, what+", written", impl.ReqForm(r), text)
}

// P3: a request of each kind, and its text.
func TestReqOfEachKind(t *testing.T) {
	for text, r := range rightReqs() {
		sameReq(t, r, text)
	}
	sameReq(t, impl.Req{}, "")
	sameReq(t, impl.Req{No: 1}, "")
}

// P3: each number at its least and greatest, and one beyond.
func TestReqNumbers(t *testing.T) {
	cases := []struct {
		most int64
		req  func(n int64) impl.Req
		text string
	}{
		{3, func(n int64) impl.Req { return impl.Req{No: 1, Kind: impl.RqIssue, Client: n, Proof: "a"} }, "kind=issue&client=#&proof=a"},
		{3, func(n int64) impl.Req { return impl.Req{No: 1, Kind: impl.RqRedeem, Client: n, Code: 1, Proof: "a"} }, "kind=redeem&client=#&code=1&proof=a"},
		{99, func(n int64) impl.Req { return impl.Req{No: 1, Kind: impl.RqRedeem, Client: 1, Code: n, Proof: "a"} }, "kind=redeem&client=1&code=#&proof=a"},
		{3, func(n int64) impl.Req { return impl.Req{No: 1, Kind: impl.RqRefresh, Client: n, Token: 1} }, "kind=refresh&client=#&token=1"},
		{999, func(n int64) impl.Req { return impl.Req{No: 1, Kind: impl.RqRefresh, Client: 1, Token: n} }, "kind=refresh&client=1&token=#"},
		{3, func(n int64) impl.Req { return impl.Req{No: 1, Kind: impl.RqRevoke, Client: n, Token: 1} }, "kind=revoke&client=#&token=1"},
		{999, func(n int64) impl.Req { return impl.Req{No: 1, Kind: impl.RqRevoke, Client: 1, Token: n} }, "kind=revoke&client=1&token=#"},
		{3, func(n int64) impl.Req { return impl.Req{No: 1, Kind: impl.RqAsk, Client: n, Token: 1} }, "kind=ask&client=#&token=1"},
		{999, func(n int64) impl.Req { return impl.Req{No: 1, Kind: impl.RqAsk, Client: 1, Token: n} }, "kind=ask&client=1&token=#"},
		{1000, func(n int64) impl.Req { return impl.Req{No: 1, Kind: impl.RqTick, By: n} }, "kind=tick&by=#"},
	}
	for _, c := range cases {
		for _, n := range []int64{1, 2, c.most - 1, c.most} {
			sameReq(t, c.req(n), strings.Replace(c.text, "#", strconv.FormatInt(n, 10), 1))
		}
		for _, n := range []int64{0, -1, -2, -c.most, c.most + 1, c.most + 256, c.most + 1<<32, math.MaxInt64, math.MinInt64} {
			sameReq(t, c.req(n), "")
		}
	}
}

// P3: which one it is is no part of the text, but has to be right.
func TestReqNo(t *testing.T) {
	for text, r := range rightReqs() {
		for _, no := range []int64{1, 2, 50, 98, 99} {
			r.No = no
			sameReq(t, r, text)
		}
		for _, no := range []int64{0, -1, -99, 100, 101, 257, 1<<32 + 1, math.MaxInt64, math.MinInt64} {
			r.No = no
			sameReq(t, r, "")
		}
	}
}

// P3: there are six kinds, and what one kind names is not another one's.
func TestReqKinds(t *testing.T) {
	for _, r := range rightReqs() {
		for _, kind := range []int64{0, -1, 7, 8, 257, 1<<32 + 1, math.MaxInt64, math.MinInt64} {
			r.Kind = kind
			sameReq(t, r, "")
		}
		for kind := int64(1); kind <= 6; kind++ {
			r.Kind = kind
			sameReq(t, r, writeReqSlowly(r))
		}
	}
}

// P3: a proof is 1 to 8 bytes a-z.
func TestReqProofs(t *testing.T) {
	for n := range 20 {
		proof := "abcdefghijklmnopqrst"[:n]
		issue, redeem := "", ""
		if n >= 1 && n <= 8 {
			issue, redeem = "kind=issue&client=1&proof="+proof, "kind=redeem&client=1&code=1&proof="+proof
		}
		sameReq(t, impl.Req{No: 1, Kind: impl.RqIssue, Client: 1, Proof: proof}, issue)
		sameReq(t, impl.Req{No: 1, Kind: impl.RqRedeem, Client: 1, Code: 1, Proof: proof}, redeem)
	}
	for b := range 256 {
		one := string([]byte{byte(b)})
		for _, proof := range []string{one, "a" + one, one + "a", "a" + one + "a", "abcdefg" + one, one + "abcdefg"} {
			for _, r := range []impl.Req{
				{No: 1, Kind: impl.RqIssue, Client: 1, Proof: proof},
				{No: 1, Kind: impl.RqRedeem, Client: 1, Code: 1, Proof: proof},
			} {
				same(t, strconv.Quote(proof), impl.ReqRight(r), b >= 'a' && b <= 'z')
				same(t, strconv.Quote(proof)+", written", impl.ReqForm(r), writeReqSlowly(r))
			}
		}
	}
}

// P3: a proof is a field: it is refused as such, however long it is.
func TestReqLongProofs(t *testing.T) {
	for _, n := range []int{9, 40, 41, impl.MaxBytes, impl.MaxBytes + 1} {
		proof := strings.Repeat("a", n)
		for kind := int64(0); kind <= 7; kind++ {
			r := impl.Req{No: 1, Kind: kind, Client: 1, Code: 1, Token: 1, Proof: proof, By: 1}
			same(t, strconv.Itoa(n)+" bytes", impl.ReqRight(r), false)
			same(t, strconv.Itoa(n)+" bytes, written", impl.ReqForm(r), "")
		}
	}
}

// P3: what the kind does not name is zero, whether it would be right elsewhere or not.
func TestReqBeside(t *testing.T) {
	for text, r := range rightReqs() {
		for _, n := range []int64{1, -1, 2, 99, math.MaxInt64, math.MinInt64} {
			for name, beside := range map[string]func(*impl.Req){
				"client": func(r *impl.Req) { r.Client = n },
				"code":   func(r *impl.Req) { r.Code = n },
				"token":  func(r *impl.Req) { r.Token = n },
				"by":     func(r *impl.Req) { r.By = n },
			} {
				if !strings.Contains(text, "&"+name+"=") {
					other := r
					beside(&other)
					sameReq(t, other, "")
				}
			}
		}
		for _, proof := range []string{"a", "ab", "A", "\x00", strings.Repeat("a", 9)} {
			if !strings.Contains(text, "&proof=") {
				other := r
				other.Proof = proof
				sameReq(t, other, "")
			}
		}
	}
}

// P3: all requests that are made of what may be and what may not, as another writer says; and the right ones come back.
func TestReqTogether(t *testing.T) {
	right := 0
	eachReq(func(r impl.Req) {
		text := writeReqSlowly(r)
		if impl.ReqRight(r) != (text != "") || impl.ReqForm(r) != text {
			sameReq(t, r, text)
		}
		if text == "" {
			return
		}
		right++
		if got := impl.ReqRead(r.No, text); got != (impl.ReqOut{Req: r}) {
			t.Errorf("%s: got %+v, want %+v", text, got, r)
		}
	})
	same(t, "right ones", right, 2*(2*3+2*2*3+3*2*2+2))
}

// eachReq calls with all requests that are made of what may be and what may not.
func eachReq(call func(impl.Req)) {
	for _, no := range []int64{0, 1, 99, 100} {
		for kind := int64(-1); kind <= 7; kind++ {
			for _, client := range []int64{-1, 0, 1, 3, 4} {
				for _, code := range []int64{0, 1, 99, 100} {
					for _, token := range []int64{0, 1, 999, 1000} {
						for _, proof := range []string{"", "a", "abcdefgh", "zzzz", "abcdefghi", "a1"} {
							for _, by := range []int64{0, 1, 1000, 1001} {
								call(impl.Req{No: no, Kind: kind, Client: client, Code: code, Token: token, Proof: proof, By: by})
							}
						}
					}
				}
			}
		}
	}
}
