package tests

import (
	"strings"
	"testing"
	"unsafe"
)

// same fails the test where got is not want.
func same[T comparable](t *testing.T, what string, got, want T) {
	t.Helper()
	if got != want {
		t.Errorf("%s: got %#v, want %#v", what, got, want)
	}
}

// some is a text of n bytes, in which all bytes come and no two places close to each other are alike.
func some(n int) string {
	var b strings.Builder
	for i := range n {
		b.WriteByte(byte(i*7 + i/256))
	}
	return b.String()
}

// shares tells whether a part of text is the memory of whole.
func shares(part, whole string) bool {
	if part == "" || whole == "" {
		return false
	}
	p := uintptr(unsafe.Pointer(unsafe.StringData(part)))
	w := uintptr(unsafe.Pointer(unsafe.StringData(whole)))
	return p < w+uintptr(len(whole)) && w < p+uintptr(len(part))
}
