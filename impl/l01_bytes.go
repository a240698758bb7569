package impl

import (
	"errors"
	"strconv"
)

// Constants, see chapter 1.
const (
	OK        = 0
	ErrForm   = 1
	ErrSize   = 2
	ErrSyntax = 3
	ErrShort  = 4
	ErrSum    = 5
	ErrNone   = 6
	ErrThere  = 7
	ErrRange  = 8
	ErrFull   = 9
	ErrState  = 10
	MaxBytes  = 8000
	MaxList   = 400
	MaxTime   = 1000000
)

// NumOut is a thing of chapter 2.
type NumOut struct {
	N    int64
	At   int64
	Code int64
}

// TextOut is a thing of chapter 2.
type TextOut struct {
	Text string
	At   int64
	Code int64
}

// Sizes of what the bytes of this chapter are made of.
const (
	maxNumBytes  = 10
	maxNameBytes = 20
	sumBytes     = 4
	maxCrc       = 1<<32 - 1
	crcPoly      = 0xEDB88320
)

// fault is what is wrong with bytes that are read, by the code that is told for it.
type fault struct {
	code int64
}

// Error tells the code in digits.
func (f fault) Error() string {
	return "fault " + strconv.FormatInt(f.code, 10)
}

// codeOf is the code that err stands for: OK, if there is none.
func codeOf(err error) int64 {
	var f fault
	if errors.As(err, &f) {
		return f.code
	}
	return OK
}

// join is b behind a, in memory that is shared with neither.
func join(a, b string) string {
	l := make([]byte, len(a)+len(b))
	n := copy(l, a)
	copy(l[n:], b)
	return string(l)
}

// checkPlace looks for the faults that come ahead of all that stands in text.
func checkPlace(text string, at int64) error {
	if len(text) > MaxBytes {
		return fault{ErrSize}
	}
	if at < 0 {
		return fault{ErrForm}
	}
	return nil
}

// fold maps the numbers to those from 0 up such that numbers near 0 stay small, whatever their sign.
func fold(n int64) uint64 {
	return uint64(n)<<1 ^ uint64(n>>63)
}

// unfold is the number that fold maps to u.
func unfold(u uint64) int64 {
	return int64(u>>1) ^ -int64(u&1)
}

// PutNum is n in one to ten bytes, seven bits a byte, the lowest first.
func PutNum(n int64) string {
	var l [maxNumBytes]byte
	u := fold(n)
	last := 0
	for u >= 128 {
		l[last] = byte(u) | 128
		u >>= 7
		last++
	}
	l[last] = byte(u)
	return string(l[:last+1])
}

// readNum is the number at that place of text, and the place behind it.
func readNum(text string, at int64) (int64, int64, error) {
	if err := checkPlace(text, at); err != nil {
		return 0, 0, err
	}
	var u uint64
	var b byte
	i := int64(0)
	// A place far behind the end must not be added to: it could pass the end of int64.
	left := int64(len(text)) - at
more:
	if i >= left {
		return 0, 0, fault{ErrShort}
	}
	b = text[at+i]
	// Nine bytes hold 63 bits: the tenth one has room for one bit more.
	if i == maxNumBytes-1 && b > 1 {
		goto wrong
	}
	u |= uint64(b&127) << (7 * i)
	i++
	if b < 128 {
		goto last
	}
	goto more
last:
	// A last byte of no bits could have been left away.
	if b == 0 && i > 1 {
		goto wrong
	}
	return unfold(u), at + i, nil
wrong:
	return 0, 0, fault{ErrSyntax}
}

// GetNum is the number that stands at that place of text, and the place behind it.
func GetNum(text string, at int64) NumOut {
	n, next, err := readNum(text, at)
	return NumOut{N: n, At: next, Code: codeOf(err)}
}

// PutText is the length of t as a number, and t.
func PutText(t string) string {
	if len(t) > MaxBytes {
		return ""
	}
	return join(PutNum(int64(len(t))), t)
}

// readText is the text at that place of text, and the place behind it.
func readText(text string, at int64) (string, int64, error) {
	n, start, err := readNum(text, at)
	if err != nil {
		return "", 0, err
	}
	if n < 0 || n > MaxBytes {
		return "", 0, fault{ErrSyntax}
	}
	end := start + n
	if end > int64(len(text)) {
		return "", 0, fault{ErrShort}
	}
	return join(text[start:end], ""), end, nil
}

// GetText is the text that stands at that place of text, and the place behind it.
func GetText(text string, at int64) TextOut {
	t, next, err := readText(text, at)
	return TextOut{Text: t, At: next, Code: codeOf(err)}
}

// NameRight tells whether t is a name.
func NameRight(t string) bool {
	if len(t) < 1 || len(t) > maxNameBytes || !isSmall(t[0]) {
		return false
	}
	for i := range len(t) {
		if !isSmall(t[i]) && !isDigit(t[i]) && t[i] != '_' {
			return false
		}
	}
	return true
}

// isSmall tells whether b is one of a-z.
func isSmall(b byte) bool {
	return b >= 'a' && b <= 'z'
}

// isDigit tells whether b is one of 0-9.
func isDigit(b byte) bool {
	return b >= '0' && b <= '9'
}

// Crc is the CRC of text.
func Crc(text string) int64 {
	// The CRC of the empty text is 0, so text stands behind that one.
	return CrcMore(0, text)
}

// CrcMore is the CRC of a text of that crc with text behind it.
func CrcMore(crc int64, text string) int64 {
	if len(text) > MaxBytes || crc < 0 || crc > maxCrc {
		return 0
	}
	register := ^uint32(crc)
	for i := range len(text) {
		register = crcByte(register, text[i])
	}
	return int64(^register)
}

// crcByte is the register after one byte more.
func crcByte(register uint32, b byte) uint32 {
	// The eight lowest bits of the register meet those of b one by one: so they may be put together at once.
	register ^= uint32(b)
	for range 8 {
		out := register & 1
		register >>= 1
		if out == 1 {
			register ^= crcPoly
		}
	}
	return register
}

// sumText is the four bytes of the CRC of text, the lowest first.
func sumText(text string) string {
	crc := Crc(text)
	var l [sumBytes]byte
	for i := range l {
		l[i] = byte(crc >> (8 * i))
	}
	return string(l[:])
}

// Seal is text with its CRC behind it.
func Seal(text string) string {
	if len(text) > MaxBytes-sumBytes {
		return ""
	}
	return join(text, sumText(text))
}

// openSeal is the text that was sealed.
func openSeal(text string) (string, error) {
	if len(text) > MaxBytes {
		return "", fault{ErrSize}
	}
	if len(text) < sumBytes {
		return "", fault{ErrShort}
	}
	end := len(text) - sumBytes
	if sumText(text[:end]) != text[end:] {
		return "", fault{ErrSum}
	}
	return join(text[:end], ""), nil
}

// Unseal is the text of which text is the Seal.
func Unseal(text string) TextOut {
	t, err := openSeal(text)
	return TextOut{Text: t, Code: codeOf(err)}
}
