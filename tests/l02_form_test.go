package tests

import (
	"slices"
	"strconv"
	"strings"
	"testing"

	"loop.example/g00842/impl"
)

// rightForms is forms at all the limits that there are.
func rightForms() map[string][]impl.Pair {
	return map[string][]impl.Pair{
		"one pair":                        form("a", "x"),
		"two pairs":                       form("a", "x y", "b_c", ""),
		"names not in order":              form("b", "1", "a", "2", "c", "3"),
		"two of one text":                 form("a", "x", "b", "x"),
		"a name that begins the other":    form("aa", "1", "a", "2", "aaa", "3"),
		"a name of _":                     form("_", "x"),
		"a name that begins with _":       form("_a", "x"),
		"a name of 12 bytes":              form("abcdefghijkl", "x"),
		"another name of 12 bytes":        form("xyz_________", "x"),
		"two names of 12 bytes":           form("aaaaaaaaaaaa", "x", "aaaaaaaaaaab", "x"),
		"a text of no bytes":              form("a", ""),
		"a text of 40 bytes":              form("a", strings.Repeat("x", 40)),
		"a text of 40 bytes of all sorts": form("a", some(40)),
		"40 bytes that are no letters":    form("a", strings.Repeat("\xff", 40)),
		"no runes":                        form("a", "\xc3\x28", "b", "\x00"),
		"what parts forms":                form("a", "&", "b", "=", "c", "%", "d", "a=1&b=2", "e", "%41"),
		"MaxPairs pairs":                  manyPairs(impl.MaxPairs),
		"as long as may be":               longestForm(),
	}
}

// longestForm is MaxPairs pairs of 12 and 40 bytes, each of which stands as three.
func longestForm() []impl.Pair {
	var l []impl.Pair
	for i := range impl.MaxPairs {
		name := strings.Repeat("a", 11) + string([]byte{byte('a' + i)})
		l = append(l, impl.Pair{Name: name, Text: strings.Repeat("\x00", 40)})
	}
	return l
}

// wrongForms is forms that are not right.
func wrongForms() map[string][]impl.Pair {
	return map[string][]impl.Pair{
		"none":                             nil,
		"no pair":                          {},
		"one more than MaxPairs":           manyPairs(impl.MaxPairs + 1),
		"MaxList pairs":                    manyPairs(impl.MaxList),
		"one more than MaxList":            manyPairs(impl.MaxList + 1),
		"two of one name":                  form("a", "x", "a", "y"),
		"two of one name and text":         form("a", "x", "a", "x"),
		"two of one name, others between":  form("b", "", "a", "", "c", "", "d", "", "a", ""),
		"the last ones of one name":        append(manyPairs(7), impl.Pair{Name: "za"}, impl.Pair{Name: "za"})[1:],
		"the first and the last of a name": append(manyPairs(7), impl.Pair{Name: "za"}),
		"an empty name":                    form("", "x"),
		"an empty name behind another":     form("a", "x", "", "x"),
		"a name of 13 bytes":               form("abcdefghijklm", "x"),
		"a name of 13 bytes, the last one": form("a", "x", "abcdefghijklm", "x"),
		"a large letter":                   form("A", "x"),
		"a digit":                          form("a1", "x"),
		"a dash":                           form("a-b", "x"),
		"a blank":                          form("a b", "x"),
		"no letter of ASCII":               form("\xc3\xa9", "x"),
		"a text of 41 bytes":               form("a", strings.Repeat("x", 41)),
		"a text of 41 bytes, the last one": form("a", "", "b", strings.Repeat("\x00", 41)),
		"a text of MaxBytes bytes":         form("a", some(impl.MaxBytes)),
		"a text of one more":               form("a", some(impl.MaxBytes+1)),
		"a name of one more":               form(strings.Repeat("a", impl.MaxBytes+1), "x"),
	}
}

// P3: which forms are right.
func TestFormRight(t *testing.T) {
	for what, l := range rightForms() {
		same(t, what, impl.FormRight(l), true)
	}
	for what, l := range wrongForms() {
		same(t, what, impl.FormRight(l), false)
	}
	for n := range 20 {
		same(t, strconv.Itoa(n)+" pairs", impl.FormRight(manyPairs(n)), n >= 1 && n <= impl.MaxPairs)
		name := strings.Repeat("a", n)
		same(t, strconv.Itoa(n)+" bytes of name", impl.FormRight(form(name, "")), n >= 1 && n <= 12)
	}
	for n := range 50 {
		same(t, strconv.Itoa(n)+" bytes of text", impl.FormRight(form("a", some(n))), n <= 40)
	}
}

// P3: of which bytes a name is, and that a text is of whatever bytes.
func TestFormRightBytes(t *testing.T) {
	for b := range 256 {
		one := string([]byte{byte(b)})
		good := b >= 'a' && b <= 'z' || b == '_'
		for _, name := range []string{one, "a" + one, one + "a", "a" + one + "a", "aaaaaaaaaaa" + one} {
			same(t, "name "+strconv.Quote(name), impl.FormRight(form(name, "")), good)
		}
		same(t, "text "+strconv.Itoa(b), impl.FormRight(form("a", one)), true)
		same(t, "40 of "+strconv.Itoa(b), impl.FormRight(form("a", strings.Repeat(one, 40))), true)
	}
}

// P3: the bytes of a form's text.
func TestFormTextBytes(t *testing.T) {
	same(t, "one pair", impl.FormText(form("a", "x")), "a=x")
	same(t, "an empty text", impl.FormText(form("a", "")), "a=")
	same(t, "in their order", impl.FormText(form("b", "1", "a", "2", "c", "")), "b=1&a=2&c=")
	same(t, "plain bytes", impl.FormText(form("a", "azAZ09-._")), "a=azAZ09-._")
	same(t, "what parts forms", impl.FormText(form("_a", "&=%", "b", "%41")), "_a=%26%3D%25&b=%2541")
	same(t, "blank and plus", impl.FormText(form("a", " +")), "a=%20%2B")
	same(t, "beside the plain ones", impl.FormText(form("a", "`{@[/:,^~")), "a=%60%7B%40%5B%2F%3A%2C%5E%7E")
	same(t, "the least and the greatest", impl.FormText(form("a", "\x00\x0f\xf0\xff")), "a=%00%0F%F0%FF")
	same(t, "no rune", impl.FormText(form("a", "\xc3\xa9")), "a=%C3%A9")
	for b := range 256 {
		l := form("a", string([]byte{byte(b)}), "b", string([]byte{'x', byte(b), 'y'}))
		same(t, "byte "+strconv.Itoa(b), impl.FormText(l), writeSlowly(l))
	}
	for what, l := range rightForms() {
		same(t, what, impl.FormText(l), writeSlowly(l))
	}
	same(t, "as long as may be", len(impl.FormText(longestForm())), 8*(12+1+120)+7)
}

// P3: what is not right has no text.
func TestFormTextRefused(t *testing.T) {
	for what, l := range wrongForms() {
		same(t, what, impl.FormText(l), "")
	}
}

// P3: what a name stands for.
func TestFormGet(t *testing.T) {
	for what, l := range rightForms() {
		for _, p := range l {
			same(t, what+", "+p.Name, impl.FormGet(l, p.Name), p.Text)
		}
		for _, name := range []string{"", "nothing", "A", "a=", "aaaa", strings.Repeat("a", impl.MaxBytes), strings.Repeat("a", impl.MaxBytes+1)} {
			same(t, what+", none of it", impl.FormGet(l, name), "")
		}
	}
}

// P3: nothing stands in what is not right, whatever the name.
func TestFormGetRefused(t *testing.T) {
	for what, l := range wrongForms() {
		for _, p := range l {
			same(t, what+", "+strconv.Quote(p.Name), impl.FormGet(l, p.Name), "")
		}
		same(t, what+", a", impl.FormGet(l, "a"), "")
	}
}

// P3: what is handed in is not changed, and an answer shares no memory with it.
func TestFormsAreNew(t *testing.T) {
	for what, l := range rightForms() {
		before := slices.Clone(l)
		impl.FormRight(l)
		impl.FormText(l)
		impl.FormGet(l, l[0].Name)
		same(t, what, slices.Equal(l, before), true)
	}
	text := strings.Repeat("x", 40)
	l := form("a", text)
	same(t, "FormText", shares(impl.FormText(l), text), false)
	same(t, "FormGet", shares(impl.FormGet(l, "a"), text), false)
}
