package tests

import (
	"math"
	"strconv"
	"strings"
	"testing"

	"loop.example/g00842/impl"
)

// P1: the bytes themselves.
func TestPutTextBytes(t *testing.T) {
	same(t, "empty", impl.PutText(""), "\x00")
	same(t, "one byte", impl.PutText("a"), "\x02a")
	same(t, "bytes of all kinds", impl.PutText("\x00\xff"), "\x04\x00\xff")
	same(t, "63 bytes", impl.PutText(some(63)), "\x7e"+some(63))
	same(t, "64 bytes", impl.PutText(some(64)), "\x80\x01"+some(64))
	same(t, "MaxBytes", impl.PutText(some(impl.MaxBytes)), "\x80\x7d"+some(impl.MaxBytes))
	same(t, "one more", impl.PutText(some(impl.MaxBytes+1)), "")
}

// P1: texts come back, whatever stands ahead of them and behind.
func TestTextsComeBack(t *testing.T) {
	// 7998 bytes and two of their length are MaxBytes.
	for _, size := range []int{0, 1, 2, 63, 64, 65, 127, 128, 256, 1000, 7997, 7998} {
		name := strconv.Itoa(size) + " bytes"
		text := some(size)
		put := impl.PutText(text)
		end := int64(len(put))
		same(t, name, impl.GetText(put, 0), impl.TextOut{Text: text, At: end})
		if size > 1000 {
			continue
		}
		between := "\xff\x00\x04" + put + "\xff\x00"
		same(t, name+" between", impl.GetText(between, 3), impl.TextOut{Text: text, At: 3 + end})
	}
}

// P1: one behind the other, each found where the one ahead of it ends.
func TestTextsInARow(t *testing.T) {
	texts := []string{"", "a", some(64), "", some(300), "\x00", ""}
	all := ""
	for _, text := range texts {
		all += impl.PutText(text)
	}
	at := int64(0)
	for _, text := range texts {
		got := impl.GetText(all, at)
		same(t, "text", got.Text, text)
		same(t, "code", got.Code, impl.OK)
		at = got.At
	}
	same(t, "end", at, int64(len(all)))
}

// P1: lengths out of range, and texts that end ahead of their length.
func TestTextsRefused(t *testing.T) {
	cases := []struct {
		what string
		text string
		at   int64
		code int64
	}{
		{"length -1", impl.PutNum(-1), 0, impl.ErrSyntax},
		{"length -1, with a text", impl.PutNum(-1) + "ab", 0, impl.ErrSyntax},
		{"least length", impl.PutNum(math.MinInt64), 0, impl.ErrSyntax},
		{"length MaxBytes and 1", impl.PutNum(impl.MaxBytes + 1), 0, impl.ErrSyntax},
		{"greatest length", impl.PutNum(math.MaxInt64) + "ab", 0, impl.ErrSyntax},
		{"length -1 behind a text", "ab" + impl.PutNum(-1), 2, impl.ErrSyntax},
		{"length in too many bytes", "\x82\x00a", 0, impl.ErrSyntax},
		{"length MaxBytes of no text", impl.PutNum(impl.MaxBytes), 0, impl.ErrShort},
		{"length 1 of no text", "\x02", 0, impl.ErrShort},
		{"length 3 of two bytes", "\x06ab", 0, impl.ErrShort},
		{"length 3 of two bytes behind a text", "xyz\x06ab", 3, impl.ErrShort},
		{"length MaxBytes, two bytes too few", impl.PutText(some(impl.MaxBytes))[:impl.MaxBytes], 0, impl.ErrShort},
		{"below 0 ahead of a length out of range", impl.PutNum(-1), -1, impl.ErrForm},
	}
	for _, c := range cases {
		same(t, c.what, impl.GetText(c.text, c.at), impl.TextOut{Code: c.code})
	}
}

// P1: the size of the text is looked at ahead of all else.
func TestTextsOfLongTexts(t *testing.T) {
	long := strings.Repeat("\x00", impl.MaxBytes)
	same(t, "first of MaxBytes", impl.GetText(long, 0), impl.TextOut{At: 1})
	same(t, "last of MaxBytes", impl.GetText(long, impl.MaxBytes-1), impl.TextOut{At: impl.MaxBytes})
	same(t, "one byte more than there is", impl.GetText(long[1:]+"\x02", impl.MaxBytes-1), impl.TextOut{Code: impl.ErrShort})
	for _, at := range []int64{0, -1, impl.MaxBytes, math.MaxInt64} {
		same(t, "one more", impl.GetText(long+"\x00", at), impl.TextOut{Code: impl.ErrSize})
	}
	same(t, "what PutText makes of MaxBytes", impl.GetText(impl.PutText(long), 0), impl.TextOut{Code: impl.ErrSize})
}

// P1: an answer shares no memory with what was handed in.
func TestTextsAreNew(t *testing.T) {
	put := impl.PutText(some(100))
	same(t, "GetText", shares(impl.GetText(put, 0).Text, put), false)
	text := some(100)
	same(t, "PutText", shares(impl.PutText(text), text), false)
}

// Names are asked for by the same chapter.
func TestNameRight(t *testing.T) {
	right := []string{"a", "z", "a0", "z9", "a_", "a_9", "abcdefghijklmnopqrst", "zzzzzzzzzz0123456789", "a" + strings.Repeat("_", 19)}
	for _, name := range right {
		same(t, strconv.Quote(name), impl.NameRight(name), true)
	}
	wrong := []string{"", "_", "_a", "0", "9a", "A", "aA", "aZ", "a-", "a b", " a", "a ", "a\x00", "a\n", "`", "{", "a`", "a{", "a/", "a:",
		"é", "aé", "a\xff", "a\xe1", "abcdefghijklmnopqrstu", strings.Repeat("a", impl.MaxBytes), strings.Repeat("a", impl.MaxBytes+1)}
	for _, name := range wrong {
		same(t, strconv.Quote(name), impl.NameRight(name), false)
	}
	for b := range 256 {
		small := b >= 'a' && b <= 'z'
		inner := small || b >= '0' && b <= '9' || b == '_'
		one := string([]byte{byte(b)})
		same(t, "first "+strconv.Itoa(b), impl.NameRight(one), small)
		same(t, "inner "+strconv.Itoa(b), impl.NameRight("a"+one+"b"), inner)
		same(t, "last "+strconv.Itoa(b), impl.NameRight("a"+one), inner)
	}
}

func FuzzTexts(f *testing.F) {
	f.Add("x\x04ab", int64(1))
	f.Add("\x80\x7d", int64(0))
	f.Fuzz(func(t *testing.T, text string, at int64) {
		out := impl.GetText(text, at)
		if out.Code != impl.OK {
			same(t, "beside a code", out, impl.TextOut{Code: out.Code})
			return
		}
		same(t, "read and put", impl.PutText(out.Text), text[at:out.At])
	})
}
