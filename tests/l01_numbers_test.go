package tests

import (
	"encoding/binary"
	"math"
	"strconv"
	"strings"
	"testing"

	"loop.example/g00842/impl"
)

// edgeNumbers are the ends of the range, the ends of each size in bytes and what is beside them.
func edgeNumbers() []int64 {
	l := []int64{0, 1, -1, 2, -2, 100, -100, math.MaxInt64, math.MaxInt64 - 1, math.MinInt64, math.MinInt64 + 1}
	for bit := 6; bit < 63; bit++ {
		n := int64(1) << bit
		l = append(l, n-1, n, n+1, -n-1, -n, -n+1)
	}
	return l
}

// P1: the bytes themselves, each written out.
func TestPutNumBytes(t *testing.T) {
	cases := []struct {
		n    int64
		want string
	}{
		{0, "\x00"}, {-1, "\x01"}, {1, "\x02"}, {-2, "\x03"},
		{63, "\x7e"}, {-64, "\x7f"}, {64, "\x80\x01"}, {-65, "\x81\x01"},
		{8191, "\xfe\x7f"}, {-8192, "\xff\x7f"}, {8192, "\x80\x80\x01"},
		{math.MaxInt64, "\xfe\xff\xff\xff\xff\xff\xff\xff\xff\x01"},
		{math.MinInt64, "\xff\xff\xff\xff\xff\xff\xff\xff\xff\x01"},
	}
	for _, c := range cases {
		same(t, strconv.FormatInt(c.n, 10), impl.PutNum(c.n), c.want)
	}
}

// P1: each size from one byte to ten, at its two ends on both sides of 0.
func TestPutNumSizes(t *testing.T) {
	for size := 1; size <= 9; size++ {
		end := int64(1) << (7*size - 1)
		same(t, "last above 0", len(impl.PutNum(end-1)), size)
		same(t, "last below 0", len(impl.PutNum(-end)), size)
		same(t, "first above 0", len(impl.PutNum(end)), size+1)
		same(t, "first below 0", len(impl.PutNum(-end-1)), size+1)
	}
}

// P1: numbers come back, whatever stands ahead of them and behind.
func TestNumbersComeBack(t *testing.T) {
	for _, n := range edgeNumbers() {
		name := strconv.FormatInt(n, 10)
		text := impl.PutNum(n)
		same(t, name+" as varint", text, string(binary.AppendVarint(nil, n)))
		size := int64(len(text))
		same(t, name, impl.GetNum(text, 0), impl.NumOut{N: n, At: size})
		same(t, name+" between", impl.GetNum("\xff\x00a"+text+"\xff\xff", 3), impl.NumOut{N: n, At: 3 + size})
		same(t, name+" ahead of 0", impl.GetNum(text+"\x00", 0), impl.NumOut{N: n, At: size})
	}
}

// P1: one behind the other, each found where the one ahead of it ends.
func TestNumbersInARow(t *testing.T) {
	var b strings.Builder
	for _, n := range edgeNumbers() {
		b.WriteString(impl.PutNum(n))
	}
	at := int64(0)
	for _, n := range edgeNumbers() {
		got := impl.GetNum(b.String(), at)
		same(t, "number", got.N, n)
		same(t, "code", got.Code, impl.OK)
		at = got.At
	}
	same(t, "end", at, int64(b.Len()))
}

// P1: all texts of up to three bytes are read as the numbers they are, or refused.
func TestNumbersOfFewBytes(t *testing.T) {
	bytes := []byte{0, 1, 2, 3, 63, 64, 126, 127, 128, 129, 191, 192, 254, 255}
	for _, a := range bytes {
		for _, b := range bytes {
			for _, c := range bytes {
				text := string([]byte{a, b, c})
				same(t, strconv.Quote(text), impl.GetNum(text, 0), numOracle(text))
			}
		}
	}
}

// numOracle reads a number of at most three bytes at the place 0.
func numOracle(text string) impl.NumOut {
	n, size := binary.Varint([]byte(text))
	if size == 0 {
		return impl.NumOut{Code: impl.ErrShort}
	}
	if size > 1 && text[size-1] == 0 {
		return impl.NumOut{Code: impl.ErrSyntax}
	}
	return impl.NumOut{N: n, At: int64(size)}
}

// P1: what is no number is refused, with nothing beside the code.
func TestNumbersRefused(t *testing.T) {
	nine := strings.Repeat("\x80", 9)
	full := strings.Repeat("\xff", 9)
	cases := []struct {
		what string
		text string
		at   int64
		code int64
	}{
		{"below 0", "\x00", -1, impl.ErrForm},
		{"far below 0", "\x00", math.MinInt64, impl.ErrForm},
		{"below 0 of the empty text", "", -1, impl.ErrForm},
		{"the empty text", "", 0, impl.ErrShort},
		{"at the end", "\x00", 1, impl.ErrShort},
		{"behind the end", "\x00", 2, impl.ErrShort},
		{"far behind the end", "\x00", math.MaxInt64, impl.ErrShort},
		{"ends too early", "\x80", 0, impl.ErrShort},
		{"ends too early behind another", "\x00\x80", 1, impl.ErrShort},
		{"nine bytes, no last one", full, 0, impl.ErrShort},
		{"nine bytes of no bits, no last one", nine, 0, impl.ErrShort},
		{"0 in two bytes", "\x80\x00", 0, impl.ErrSyntax},
		{"-1 in two bytes", "\x81\x00", 0, impl.ErrSyntax},
		{"64 in three bytes", "\x80\x81\x00", 0, impl.ErrSyntax},
		{"too long behind another", "\x05\xff\x00", 1, impl.ErrSyntax},
		{"0 in ten bytes", nine + "\x00", 0, impl.ErrSyntax},
		{"a full one in ten bytes", full + "\x00", 0, impl.ErrSyntax},
		{"tenth byte 2", nine + "\x02", 0, impl.ErrSyntax},
		{"tenth byte 3", full + "\x03", 0, impl.ErrSyntax},
		{"tenth byte 127", full + "\x7f", 0, impl.ErrSyntax},
		{"tenth byte 128, the text ends", full + "\x80", 0, impl.ErrSyntax},
		{"tenth byte 129, the text ends", nine + "\x81", 0, impl.ErrSyntax},
		{"eleven bytes", nine + "\x80\x01", 0, impl.ErrSyntax},
		{"tenth byte 2 behind another", "\x00" + nine + "\x02", 1, impl.ErrSyntax},
	}
	for _, c := range cases {
		same(t, c.what, impl.GetNum(c.text, c.at), impl.NumOut{Code: c.code})
		same(t, c.what+", of a text", impl.GetText(c.text, c.at), impl.TextOut{Code: c.code})
	}
	same(t, "tenth byte 1", impl.GetNum(nine+"\x01", 0), impl.NumOut{N: 1 << 62, At: 10})
	same(t, "the fourth one of ten", impl.GetNum("abc"+full+"\x01", 3), impl.NumOut{N: math.MinInt64, At: 13})
}

// P1: the size of the text is looked at ahead of all else, and MaxBytes bytes are not too many.
func TestNumbersOfLongTexts(t *testing.T) {
	long := strings.Repeat("\x00", impl.MaxBytes)
	same(t, "first of MaxBytes", impl.GetNum(long, 0), impl.NumOut{At: 1})
	same(t, "last of MaxBytes", impl.GetNum(long, impl.MaxBytes-1), impl.NumOut{At: impl.MaxBytes})
	same(t, "behind MaxBytes", impl.GetNum(long, impl.MaxBytes), impl.NumOut{Code: impl.ErrShort})
	same(t, "below 0 of MaxBytes", impl.GetNum(long, -1), impl.NumOut{Code: impl.ErrForm})
	for _, at := range []int64{0, -1, impl.MaxBytes, impl.MaxBytes + 1, math.MaxInt64} {
		same(t, "one more", impl.GetNum(long+"\x00", at), impl.NumOut{Code: impl.ErrSize})
	}
}

func FuzzNumbers(f *testing.F) {
	for _, n := range edgeNumbers() {
		f.Add(impl.PutNum(n), int64(0))
	}
	f.Fuzz(func(t *testing.T, text string, at int64) {
		out := impl.GetNum(text, at)
		if out.Code != impl.OK {
			same(t, "beside a code", out, impl.NumOut{Code: out.Code})
			return
		}
		same(t, "read and put", impl.PutNum(out.N), text[at:out.At])
	})
}
