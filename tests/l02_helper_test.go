package tests

import (
	"fmt"
	"regexp"
	"slices"
	"strconv"
	"strings"
	"testing"

	"loop.example/g00842/impl"
)

// sameForm fails the test where got is not the form l with that code; an empty list and none are the same.
func sameForm(t *testing.T, what string, got impl.FormOut, l []impl.Pair, code int64) {
	t.Helper()
	if got.Code != code || !slices.Equal(got.Pairs, l) {
		t.Errorf("%s: got %#v, want code %d of %#v", what, got, code, l)
	}
}

// form is the pairs of names and texts that take turns.
func form(l ...string) []impl.Pair {
	var out []impl.Pair
	for i := 0; i < len(l); i += 2 {
		out = append(out, impl.Pair{Name: l[i], Text: l[i+1]})
	}
	return out
}

// manyPairs is n pairs, each right, no two of one name, not in the order of their names.
func manyPairs(n int) []impl.Pair {
	var out []impl.Pair
	for i := range n {
		name := string([]byte{byte('z' - i%26), byte('a' + i/26)})
		out = append(out, impl.Pair{Name: name, Text: strconv.Itoa(i)})
	}
	return out
}

// partPattern is what a part of a form's text looks like.
var partPattern = regexp.MustCompile(`^([a-z_]{1,12})=((?:[a-zA-Z0-9._-]|%[0-9A-F]{2}){0,40})$`)

// plainPattern is the bytes of a form that stand as they are.
var plainPattern = regexp.MustCompile(`^[a-zA-Z0-9._-]$`)

// readSlowly is what FormRead has to tell of a text of at most MaxBytes bytes, told in another way.
func readSlowly(text string) impl.FormOut {
	parts := strings.Split(text, "&")
	var names []string
	for _, part := range parts {
		names = append(names, strings.SplitN(part, "=", 2)[0])
	}
	slices.Sort(names)
	if len(slices.Compact(names)) < len(parts) {
		return impl.FormOut{Code: impl.ErrThere}
	}
	wrong := impl.FormOut{Code: impl.ErrSyntax}
	if len(parts) > impl.MaxPairs {
		return wrong
	}
	var out impl.FormOut
	for _, part := range parts {
		m := partPattern.FindStringSubmatch(part)
		if m == nil {
			return wrong
		}
		value := ""
		for at := 0; at < len(m[2]); at++ {
			one := m[2][at : at+1]
			if one == "%" {
				n, err := strconv.ParseUint(m[2][at+1:at+3], 16, 8)
				one = string([]byte{byte(n)})
				if err != nil || plainPattern.MatchString(one) {
					return wrong
				}
				at += 2
			}
			value += one
		}
		out.Pairs = append(out.Pairs, impl.Pair{Name: m[1], Text: value})
	}
	return out
}

// writeSlowly is the text of a right form, told in another way.
func writeSlowly(l []impl.Pair) string {
	var parts []string
	for _, p := range l {
		part := p.Name + "="
		for _, b := range []byte(p.Text) {
			if plainPattern.Match([]byte{b}) {
				part += string([]byte{b})
			} else {
				part += fmt.Sprintf("%%%02X", b)
			}
		}
		parts = append(parts, part)
	}
	return strings.Join(parts, "&")
}
