package tests

import (
	"slices"
	"strconv"
	"strings"
	"testing"

	"loop.example/g00842/impl"
)

// P3: a right form comes back from its text.
func TestFormsComeBack(t *testing.T) {
	for what, l := range rightForms() {
		sameForm(t, what, impl.FormRead(impl.FormText(l)), l, impl.OK)
	}
	for n := 1; n <= impl.MaxPairs; n++ {
		l := manyPairs(n)
		sameForm(t, strconv.Itoa(n)+" pairs", impl.FormRead(impl.FormText(l)), l, impl.OK)
	}
	for n := range 41 {
		l := form("a", some(n), "b", strings.Repeat("%", n))
		sameForm(t, strconv.Itoa(n)+" bytes", impl.FormRead(impl.FormText(l)), l, impl.OK)
	}
}

// P3: whatever bytes come back, wherever they stand.
func TestFormBytesComeBack(t *testing.T) {
	for a := range 256 {
		one := string([]byte{byte(a)})
		for _, value := range []string{one, one + "41", "%" + one, "x" + one, strings.Repeat(one, 40)} {
			l := form("a", value, "b", "")
			sameForm(t, strconv.Quote(value), impl.FormRead(impl.FormText(l)), l, impl.OK)
		}
		for b := range 256 {
			l := form("a", string([]byte{byte(a), byte(b)}))
			sameForm(t, strconv.Quote(l[0].Text), impl.FormRead(impl.FormText(l)), l, impl.OK)
		}
	}
}

// P3: texts that are written down here.
func TestFormReadTexts(t *testing.T) {
	sameForm(t, "one pair", impl.FormRead("a=x"), form("a", "x"), impl.OK)
	sameForm(t, "two pairs", impl.FormRead("a=x%20y&b_c="), form("a", "x y", "b_c", ""), impl.OK)
	sameForm(t, "in their order", impl.FormRead("b=1&_=2&a="), form("b", "1", "_", "2", "a", ""), impl.OK)
	sameForm(t, "a percent sign", impl.FormRead("a=%2541"), form("a", "%41"), impl.OK)
	sameForm(t, "all digits", impl.FormRead("a=%01%23%85%E7%89%AB%CD%EF"), form("a", "\x01\x23\x85\xe7\x89\xab\xcd\xef"), impl.OK)
	sameForm(t, "what parts forms", impl.FormRead("a=%26%3D%25"), form("a", "&=%"), impl.OK)
	sameForm(t, "a name of 12 bytes", impl.FormRead("abcdefghijkl=x"), form("abcdefghijkl", "x"), impl.OK)
}

// P3: what is no form's text is refused, with nothing beside the code.
func TestFormReadSyntax(t *testing.T) {
	texts := []string{
		"", "a", "=", "=x", "abc", "a&b", "a=1&b", "b&a=1", "a=1&", "&a=1", "a=1&=", "a=1&b=2&",
		"a==", "a=b=c", "a=b=", "a=1;b=2", "a=1&b==2", "a =1", " a=1", "a= 1", "a=1 ", "a=1\n", "\x00a=1",
		"A=1", "a1=1", "1=1", "a-=1", "a.=1", "%61=1", "a%3D=1", "a%3D1", "\xc3\xa9=1",
		"abcdefghijklm=x", strings.Repeat("a", 13) + "=",
		"a=+", "a=x+y", "a=x y", "a=~", "a=*", "a=/", "a=\x00", "a=\xff", "a=\xc3\xa9", "a=\"", "a=`", "a={", "a=@", "a=[", "a=:", "a=,",
		"a=%2f", "a=%2F%2f", "a=%c3", "a=%fF", "a=%Ff", "a=%ff", "a=%0a", "a=x%20y%0a",
		"a=%41", "a=%5A", "a=%61", "a=%7A", "a=%30", "a=%39", "a=%2D", "a=%2E", "a=%5F", "a=%20%41", "a=%41%20", "a=1&b=%41",
		"a=%", "a=%2", "a=x%", "a=x%2", "a=%%", "a=%%20", "a=%2%20", "a=%20%", "a=%20%2", "a=%&b=1", "a=%2&b=1", "a=%2=0", "a=%2&b=0",
		"a=%G0", "a=%0G", "a=%2X", "a= 20", "a=%+2", "a=%-1", "a=% 2", "a=%2 ", "a=%0x", "a=%:0", "a=%@0", "a=%/0", "a=%\x000", "a=%2\xff",
		"a=" + strings.Repeat("x", 41), "a=" + strings.Repeat("%00", 41), "a=" + strings.Repeat("x", 40) + "%00",
		"a=1&b=" + strings.Repeat("x", 41), "a=" + strings.Repeat("%00", 40) + "%", "a=" + strings.Repeat("%00", 40) + "&",
		writeSlowly(manyPairs(impl.MaxPairs + 1)), writeSlowly(manyPairs(impl.MaxPairs)) + "&", writeSlowly(manyPairs(impl.MaxList)),
	}
	for _, text := range texts {
		sameForm(t, strconv.Quote(text), impl.FormRead(text), nil, impl.ErrSyntax)
	}
}

// P3: two parts of one name are told ahead of all that is wrong with what is written.
func TestFormReadThere(t *testing.T) {
	texts := []string{
		"a=1&a=2", "a=1&a=1", "a=&a=", "b=0&a=1&c=2&a=3", "a=1&a=1=1", "a=1=1&a=2",
		"a&a", "a&a=", "a=&a", "a=1&b=2&a", "a&b=2&a=1",
		"&", "&&", "=&=", "=&", "&=", "=1&=2", "a=1&&", "&a=1&", "&a=1&=2", "a&&b&",
		"A=1&A=2", "9=&9=", "a b=1&a b=2", "%=1&%=2", "%61=1&%61=2", "\xff&\xff", "\x00=&\x00",
		"a=%&a=%", "a=1&a=%2f", "a=%41&a=1", "a=~&b=1&b=2", "A=1&b=1&b=2", "b=1&b=2&A", "=1&b=1&b=2", "b=1&b=2&c=%",
		strings.Repeat("a", 13) + "=&" + strings.Repeat("a", 13) + "=", "a=" + strings.Repeat("x", 41) + "&a=",
		writeSlowly(manyPairs(impl.MaxPairs)) + "&za=", writeSlowly(manyPairs(impl.MaxPairs)) + "&za",
		writeSlowly(manyPairs(impl.MaxPairs+1)) + "&za=", writeSlowly(manyPairs(impl.MaxList)) + "&za=",
	}
	for _, text := range texts {
		sameForm(t, strconv.Quote(text), impl.FormRead(text), nil, impl.ErrThere)
	}
	alike := map[string]string{"large and small": "a=1&A=2", "a blank more": "a=1&a =2", "escaped": "a=1&%61=2", "longer": "a=1&aa=%"}
	for what, text := range alike {
		sameForm(t, what, impl.FormRead(text), nil, impl.ErrSyntax)
	}
	sameForm(t, "names are not texts", impl.FormRead("a=b&b=a"), form("a", "b", "b", "a"), impl.OK)
}

// P3: the size of the text is looked at ahead of all else, and MaxBytes bytes are not too many.
func TestFormReadLongTexts(t *testing.T) {
	many := writeSlowly(manyPairs(impl.MaxList))
	cases := []struct {
		what string
		text string
		fill string
		code int64
	}{
		{"one part", "a=", "x", impl.ErrSyntax},
		{"one part, escaped", "a=xx", "%00", impl.ErrSyntax},
		{"one name", "", "a", impl.ErrSyntax},
		{"a right beginning", "a=1&b=", "x", impl.ErrSyntax},
		{"parts of no name", "", "&", impl.ErrThere},
		{"two parts of one name", "a=1&a=", "x", impl.ErrThere},
		{"two parts of one name, no form", "A&A=", "%", impl.ErrThere},
		{"many parts", many, "x", impl.ErrSyntax},
		{"many parts and one again", many + "&za=", "x", impl.ErrThere},
	}
	for _, c := range cases {
		text := c.text + strings.Repeat(c.fill, (impl.MaxBytes-len(c.text))/len(c.fill))
		text += strings.Repeat("x", impl.MaxBytes-len(text))
		sameForm(t, c.what, impl.FormRead(text), nil, c.code)
		sameForm(t, c.what+", one byte more", impl.FormRead(text+"x"), nil, impl.ErrSize)
	}
	sameForm(t, "much longer", impl.FormRead(strings.Repeat("a=1&", impl.MaxBytes)), nil, impl.ErrSize)
}

// P3: of all short texts of the bytes that mean something just those are read that are a form's.
func TestFormReadShortTexts(t *testing.T) {
	texts := []string{""}
	for range 6 {
		var longer []string
		for _, text := range texts {
			for _, b := range "ab=&%4F" {
				longer = append(longer, text+string(b))
			}
		}
		for _, text := range longer {
			want := readSlowly(text)
			sameForm(t, strconv.Quote(text), impl.FormRead(text), want.Pairs, want.Code)
		}
		texts = longer
	}
	for a := range 256 {
		for b := range 256 {
			text := "b=&a=%" + string([]byte{byte(a), byte(b)})
			want := readSlowly(text)
			sameForm(t, strconv.Quote(text), impl.FormRead(text), want.Pairs, want.Code)
		}
	}
}

// P3: a text with one byte turned is another form's, or none's.
func TestFormReadTurned(t *testing.T) {
	l := form("ab", "x %", "c", "\xff&=", "_d", "")
	text := impl.FormText(l)
	for i := range len(text) {
		for b := range 256 {
			turned := []byte(text)
			turned[i] = byte(b)
			want := readSlowly(string(turned))
			sameForm(t, strconv.Quote(string(turned)), impl.FormRead(string(turned)), want.Pairs, want.Code)
		}
	}
}

// P3: an answer is new memory, each time.
func TestReadFormsAreNew(t *testing.T) {
	text := "abcdefghijkl=" + strings.Repeat("x", 40) + "&ab=xy"
	first := impl.FormRead(text)
	for _, p := range first.Pairs {
		same(t, "name "+p.Name, shares(p.Name, text), false)
		same(t, "text "+p.Text, shares(p.Text, text), false)
	}
	want := slices.Clone(first.Pairs)
	first.Pairs[0] = impl.Pair{}
	sameForm(t, "read again", impl.FormRead(text), want, impl.OK)
}

func FuzzForms(f *testing.F) {
	f.Add("a=x%20y&b_c=")
	f.Add("a=%2f&a")
	for _, l := range rightForms() {
		f.Add(impl.FormText(l))
	}
	f.Fuzz(func(t *testing.T, text string) {
		if len(text) > impl.MaxBytes {
			sameForm(t, "too long", impl.FormRead(text), nil, impl.ErrSize)
			return
		}
		want := readSlowly(text)
		sameForm(t, strconv.Quote(text), impl.FormRead(text), want.Pairs, want.Code)
	})
}
