package tests

import (
	"fmt"
	"math"
	"strconv"
	"strings"
	"testing"

	"loop.example/g00842/impl"
)

// readRefused fails the test where text is not refused with that code, and nothing beside.
func readRefused(t *testing.T, no int64, text string, code int64) {
	t.Helper()
	what := text
	if len(text) > 100 {
		what = text[:100] + ".."
	}
	same(t, strconv.FormatInt(no, 10)+" of "+strconv.Quote(what), impl.ReqRead(no, text), impl.ReqOut{Code: code})
}

// P3: a request of each kind, from its text.
func TestReqReadOfEachKind(t *testing.T) {
	for text, r := range rightReqs() {
		same(t, text, impl.ReqRead(r.No, text), impl.ReqOut{Req: r})
	}
	for _, no := range []int64{1, 2, 98, 99} {
		got := impl.ReqRead(no, "kind=tick&by=1000")
		same(t, strconv.FormatInt(no, 10), got, impl.ReqOut{Req: impl.Req{No: no, Kind: impl.RqTick, By: 1000}})
	}
}

// P3: whatever is asked comes back from its text.
func TestReqsComeBack(t *testing.T) {
	back := func(r impl.Req) {
		if got := impl.ReqRead(r.No, impl.ReqForm(r)); got != (impl.ReqOut{Req: r}) {
			t.Errorf("got %+v, want %+v", got, r)
		}
	}
	for no := int64(1); no <= 99; no++ {
		for client := int64(1); client <= 3; client++ {
			for n := range 8 {
				back(impl.Req{No: no, Kind: impl.RqIssue, Client: client, Proof: "zyabcdef"[:n+1]})
				back(impl.Req{No: no, Kind: impl.RqRedeem, Client: client, Code: 100 - no, Proof: "abcdefgh"[:n+1]})
			}
		}
	}
	for token := int64(1); token <= 999; token++ {
		for kind := int64(impl.RqRefresh); kind <= impl.RqAsk; kind++ {
			back(impl.Req{No: 1 + token%99, Kind: kind, Client: 1 + token%3, Token: token})
		}
	}
	for by := int64(1); by <= 1000; by++ {
		back(impl.Req{No: 1 + by%99, Kind: impl.RqTick, By: by})
	}
}

// P3: forms that are no request's.
func TestReqReadSyntax(t *testing.T) {
	texts := []string{
		// No kind, an unknown one, or another one's word.
		"a=1", "client=1&proof=ab", "by=5", "kind=", "kind=&by=5", "kind=wait&by=5", "kind=Tick&by=5", "kind=TICK&by=5", "kind=6&by=5",
		"kind=ticks&by=5", "kind=tic&by=5", "kind=tick%20&by=5", "kind=%20tick&by=5", "kind=tick%00&by=5", "kind=%&by=5",
		"kind=issue&by=5", "kind=tick&client=1&proof=ab", "kind=ask&client=1&proof=ab", "kind=issue&client=1&token=5", "kinds=tick&by=5",
		// A pair too many.
		"kind=tick&by=5&a=", "kind=tick&by=5&client=1", "kind=tick&by=5&client=0", "kind=tick&by=5&proof=", "kind=tick&by=5&kinds=tick", "a=1&kind=tick&by=5",
		"kind=tick&no=6&by=5", "kind=issue&client=1&code=1&proof=ab", "kind=issue&client=1&code=0&proof=ab", "kind=ask&client=1&token=5&proof=ab",
		"kind=redeem&client=1&code=2&token=3&proof=ab", "kind=ask&client=1&code=2&token=5", "kind=ask&client=1&token=5&by=1", "kind=issue&client=1&proof=ab&by=0",
		"kind=tick&by=5&a=&b=&c=&d=&e=&f=", "kind=tick&by=5&a=&b=&c=&d=&e=&f=&g=",
		// A pair missing.
		"kind=issue", "kind=tick", "kind=issue&client=1", "kind=issue&proof=ab", "kind=redeem&client=1&code=2", "kind=redeem&client=1&proof=ab",
		"kind=redeem&code=2&proof=ab", "kind=refresh&client=1", "kind=refresh&token=5", "kind=revoke&client=1", "kind=revoke&token=5", "kind=ask&client=1", "kind=ask&token=5",
		// Another order.
		"by=5&kind=tick", "client=1&kind=issue&proof=ab", "client=1&proof=ab&kind=issue", "kind=issue&proof=ab&client=1", "kind=redeem&code=2&client=1&proof=ab",
		"kind=redeem&client=1&proof=ab&code=2", "kind=redeem&proof=ab&client=1&code=2", "kind=refresh&token=5&client=1", "kind=revoke&token=5&client=1", "kind=ask&token=5&client=1",
		// Proofs.
		"kind=issue&client=1&proof=", "kind=issue&client=1&proof=abcdefghi", "kind=issue&client=1&proof=aB", "kind=issue&client=1&proof=a1", "kind=issue&client=1&proof=a_",
		"kind=issue&client=1&proof=a%20", "kind=issue&client=1&proof=%C3%A9", "kind=redeem&client=1&code=2&proof=", "kind=redeem&client=1&code=2&proof=abcdefghi",
		"kind=redeem&client=1&code=2&proof=" + strings.Repeat("a", 40), "kind=redeem&client=1&code=2&proof=" + strings.Repeat("a", 41),
		// Forms that are none.
		"", "=", "kind", "kind=tick&by", "kind=tick&by=5&", "&kind=tick&by=5", "kind=tick&by=5\n", " kind=tick&by=5", "kind=tick;by=5", "kind=tick&by=%35", "kind=%74ick&by=5",
		"Kind=tick&by=5", "kind=tick&BY=5", "kind=tick&by=5=5", "kind=tick&by==5", "kind=issue&client=1&proof=%61b",
	}
	for _, text := range texts {
		for _, no := range []int64{1, 6, 99} {
			readRefused(t, no, text, impl.ErrSyntax)
		}
	}
}

// P3: numbers that are no digits, too many, or not as few as may be.
func TestReqReadNumbers(t *testing.T) {
	frames := map[string]int64{
		"kind=issue&client=#&proof=ab": 3, "kind=redeem&client=#&code=2&proof=ab": 3, "kind=redeem&client=1&code=#&proof=ab": 99,
		"kind=refresh&client=#&token=5": 3, "kind=refresh&client=1&token=#": 999, "kind=revoke&client=#&token=5": 3, "kind=revoke&client=1&token=#": 999,
		"kind=ask&client=#&token=5": 3, "kind=ask&client=1&token=#": 999, "kind=tick&by=#": 1000,
	}
	wrong := []string{
		"", "0", "00", "-0", "-1", "%2B1", "%2D1", "+1", "01", "001", "0000000001", "%201", "1%20", "%091", "%001", "1%00", " 1", "1 ",
		"1.", "1.0", ".1", "1e0", "1_", "_1", "0_1", "0x1", "0b1", "0o1", "%31", "a", "1a", "one", "%D9%A1", "I", "--1", "1-", "-", "%2B",
		"9223372036854775807", "9223372036854775808", "9223372036854775809", "-9223372036854775808", "-9223372036854775809",
		"18446744073709551615", "18446744073709551616", "18446744073709551617", "18446744073709551618", "4294967297", "257",
		"340282366920938463463374607431768211457", strings.Repeat("9", 40), "1" + strings.Repeat("0", 39), strings.Repeat("0", 39) + "1", strings.Repeat("0", 40) + "1",
	}
	for frame, most := range frames {
		with := func(digits string) string { return strings.Replace(frame, "#", digits, 1) }
		for _, digits := range []string{"1", "2", strconv.FormatInt(most, 10)} {
			same(t, with(digits), impl.ReqRead(7, with(digits)), readReqSlowly(7, with(digits)))
			same(t, with(digits), impl.ReqRead(7, with(digits)).Code, impl.OK)
		}
		readRefused(t, 7, with(strconv.FormatInt(most+1, 10)), impl.ErrSyntax)
		readRefused(t, 7, with("0"+strconv.FormatInt(most, 10)), impl.ErrSyntax)
		for _, digits := range wrong {
			if n, err := strconv.ParseInt(digits, 10, 64); err == nil && strconv.FormatInt(n, 10) == digits && n >= 1 && n <= most {
				continue
			}
			readRefused(t, 7, with(digits), impl.ErrSyntax)
		}
	}
}

// P3: a No that is not right is told behind what is told of the form.
func TestReqReadNo(t *testing.T) {
	wrong := []int64{0, -1, -99, 100, 101, 257, 1<<32 + 1, math.MaxInt64, math.MinInt64}
	long := "kind=tick&by=" + strings.Repeat("5", impl.MaxBytes)
	for _, no := range wrong {
		for text := range rightReqs() {
			readRefused(t, no, text, impl.ErrSyntax)
		}
		readRefused(t, no, "", impl.ErrSyntax)
		readRefused(t, no, "kind=wait", impl.ErrSyntax)
		readRefused(t, no, "kind=tick&kind=tick", impl.ErrThere)
		readRefused(t, no, "kind=tick&by=5&by=6", impl.ErrThere)
		readRefused(t, no, long, impl.ErrSize)
	}
}

// P3: two parts of one name are told ahead of all that is wrong with what is asked.
func TestReqReadThere(t *testing.T) {
	texts := []string{
		"kind=ask&kind=ask", "kind=tick&by=5&by=5", "kind=tick&by=5&by=6", "kind=tick&kind=issue&by=5", "kind=tick&by=5&kind=tick",
		"kind=issue&client=1&proof=ab&proof=ab", "kind=ask&client=1&client=2&token=5", "kind=redeem&client=1&code=2&code=2&proof=ab",
		"kind=wait&by=5&by=5", "by=5&by=5", "a=1&a=2", "kind=tick&by=05&by=5", "kind=tick&by=5&a=&a=", "kind=tick&by=5&A=1&A=2", "&", "kind=tick&by=5&&",
		"kind&kind", "kind=%&kind=tick&by=5", "kind=tick&by=5&by", "kind=tick&by=5&a=&b=&c=&d=&e=&f=&f=", "kind=tick&by=5&a=&b=&c=&d=&e=&f=&g=&g=",
	}
	for _, text := range texts {
		for _, no := range []int64{1, 99, 0, 100} {
			readRefused(t, no, text, impl.ErrThere)
		}
	}
}

// P3: the size of the text is looked at ahead of all else, and MaxBytes bytes are not too many.
func TestReqReadLongTexts(t *testing.T) {
	cases := []struct {
		text string
		code int64
	}{
		{"kind=tick&by=5&a=", impl.ErrSyntax},
		{"kind=tick&by=5", impl.ErrSyntax},
		{"kind=issue&client=1&proof=", impl.ErrSyntax},
		{"", impl.ErrSyntax},
		{"kind=tick&by=5&by=", impl.ErrThere},
		{"kind&kind=", impl.ErrThere},
	}
	for _, c := range cases {
		text := c.text + strings.Repeat("5", impl.MaxBytes-len(c.text))
		for _, no := range []int64{1, 0, 100} {
			readRefused(t, no, text, c.code)
			readRefused(t, no, text+"5", impl.ErrSize)
			readRefused(t, no, strings.Repeat(text, 3), impl.ErrSize)
		}
	}
	readRefused(t, 1, strings.Repeat("&", impl.MaxBytes), impl.ErrThere)
	readRefused(t, 1, strings.Repeat("&", impl.MaxBytes+1), impl.ErrSize)
}

// P3: a text with one byte turned, left away or put in is another request's, or none's.
func TestReqReadTurned(t *testing.T) {
	check := func(text string) {
		if got, want := impl.ReqRead(9, text), readReqSlowly(9, text); got != want {
			t.Errorf("%q: got %+v, want %+v", text, got, want)
		}
	}
	for text := range rightReqs() {
		for i := range len(text) {
			check(text[:i] + text[i+1:])
			check(text[:i])
			check(text[i:])
			for b := range 256 {
				one := string([]byte{byte(b)})
				check(text[:i] + one + text[i+1:])
				check(text[:i] + one + text[i:])
			}
		}
	}
}

// P3: all ways to put up to four of the parts that mean something behind each other.
func TestReqReadParts(t *testing.T) {
	parts := []string{
		"kind=issue", "kind=redeem", "kind=refresh", "kind=revoke", "kind=ask", "kind=tick", "kind=wait",
		"client=1", "client=4", "code=99", "code=0", "token=999", "token=1000", "proof=ab", "proof=aB", "by=5", "by=05",
	}
	right := 0
	texts := []string{""}
	for range 4 {
		var longer []string
		for _, text := range texts {
			for _, part := range parts {
				longer = append(longer, strings.TrimPrefix(text+"&"+part, "&"))
			}
		}
		for _, text := range longer {
			got := impl.ReqRead(9, text)
			if want := readReqSlowly(9, text); got != want {
				t.Errorf("%q: got %+v, want %+v", text, got, want)
			}
			if got.Code == impl.OK {
				right++
			}
		}
		texts = longer
	}
	same(t, "right ones", right, 6)
}

// P3: an answer is new memory, and what is handed in is not changed.
func TestReqsAreNew(t *testing.T) {
	proof := strings.Repeat("a", 8)
	r := impl.Req{No: 1, Kind: impl.RqIssue, Client: 1, Proof: proof}
	text := impl.ReqForm(r)
	same(t, "ReqForm", shares(text, proof), false)
	first := impl.ReqRead(1, text)
	same(t, "ReqRead", shares(first.Req.Proof, text), false)
	same(t, "read again", impl.ReqRead(1, text), first)
	same(t, "two answers", shares(impl.ReqRead(1, text).Req.Proof, first.Req.Proof), false)
	tick := "kind=tick&by=5"
	same(t, "written again", shares(impl.ReqForm(impl.Req{No: 1, Kind: impl.RqTick, By: 5}), tick), false)
}

// P3: what many ask for at the same time is told to each as if it were alone.
func TestReqReadAtOnce(t *testing.T) {
	for i := range 20 {
		t.Run(fmt.Sprintf("reader %d", i), func(t *testing.T) {
			t.Parallel()
			for text, r := range rightReqs() {
				same(t, text, impl.ReqRead(r.No, text), impl.ReqOut{Req: r})
			}
			readRefused(t, 1, "kind=wait&by=5", impl.ErrSyntax)
		})
	}
}

func FuzzReqs(f *testing.F) {
	for text, r := range rightReqs() {
		f.Add(r.No, text)
	}
	f.Add(int64(0), "kind=tick&by=5")
	f.Add(int64(1), "kind=tick&by=05")
	f.Fuzz(func(t *testing.T, no int64, text string) {
		if len(text) > impl.MaxBytes {
			readRefused(t, no, text, impl.ErrSize)
			return
		}
		same(t, strconv.Quote(text), impl.ReqRead(no, text), readReqSlowly(no, text))
	})
}
