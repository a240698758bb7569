package tests

import (
	"strconv"
	"strings"
	"testing"

	"loop.example/g00842/impl"
)

// P3: the bytes of a text that is shaded.
func TestShadeBytes(t *testing.T) {
	same(t, "empty", impl.Shade(""), "")
	same(t, "one byte", impl.Shade("a"), "a")
	same(t, "two bytes", impl.Shade("ab"), "ba")
	same(t, "three bytes", impl.Shade("abc"), "cba")
	same(t, "bytes, not runes", impl.Shade("a\xc3\xa9"), "\xa9\xc3a")
	same(t, "whatever bytes", impl.Shade("\x00\xff\x80\n"), "\n\x80\xff\x00")
	same(t, "its own", impl.Shade("abba"), "abba")
	same(t, "40 bytes", impl.Shade("b"+strings.Repeat("a", 38)+"c"), "c"+strings.Repeat("a", 38)+"b")
}

// P3: what is shaded twice is what it was, up to 40 bytes.
func TestShadedTwice(t *testing.T) {
	for n := range 41 {
		text := some(n)
		shaded := impl.Shade(text)
		same(t, strconv.Itoa(n)+" bytes, shaded twice", impl.Shade(shaded), text)
		same(t, strconv.Itoa(n)+" bytes, how many", len(shaded), n)
		for i := range n {
			same(t, strconv.Itoa(n)+" bytes, at "+strconv.Itoa(i), shaded[i], text[n-1-i])
		}
	}
}

// P3: of more bytes nothing is told.
func TestShadeRefused(t *testing.T) {
	for _, n := range []int{41, 42, 80, impl.MaxBytes, impl.MaxBytes + 1} {
		same(t, strconv.Itoa(n)+" bytes", impl.Shade(some(n)), "")
	}
}

// P3: an answer shares no memory with what was handed in.
func TestShadesAreNew(t *testing.T) {
	text := strings.Repeat("a", 40)
	same(t, "Shade", shares(impl.Shade(text), text), false)
}
