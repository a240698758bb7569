package tests

import (
	"hash/crc32"
	"math"
	"strconv"
	"strings"
	"testing"

	"loop.example/g00842/impl"
)

// P2: the CRC itself.
func TestCrc(t *testing.T) {
	same(t, "empty", impl.Crc(""), 0)
	same(t, "digits", impl.Crc("123456789"), 0xCBF43926)
	same(t, "a", impl.Crc("a"), 0xE8B7BE43)
	same(t, "zero byte", impl.Crc("\x00"), 0xD202EF8D)
	same(t, "four bytes of all ones", impl.Crc("\xff\xff\xff\xff"), 0xFFFFFFFF)
	for b := range 256 {
		one := string([]byte{byte(b)})
		same(t, "byte "+strconv.Itoa(b), impl.Crc(one), int64(crc32.ChecksumIEEE([]byte(one))))
	}
	for _, size := range []int{2, 3, 4, 5, 100, impl.MaxBytes - 1, impl.MaxBytes} {
		text := some(size)
		same(t, strconv.Itoa(size), impl.Crc(text), int64(crc32.ChecksumIEEE([]byte(text))))
	}
	same(t, "one more", impl.Crc(some(impl.MaxBytes+1)), 0)
}

// P2: a CRC goes on from text to text, wherever these meet.
func TestCrcMore(t *testing.T) {
	text := some(200)
	for i := range len(text) + 1 {
		same(t, strconv.Itoa(i), impl.CrcMore(impl.Crc(text[:i]), text[i:]), impl.Crc(text))
	}
	crc := int64(0)
	for i := range len(text) {
		crc = impl.CrcMore(crc, text[i:i+1])
	}
	same(t, "byte by byte", crc, impl.Crc(text))
	same(t, "three texts", impl.CrcMore(impl.CrcMore(impl.Crc("123"), "456"), "789"), 0xCBF43926)
}

// P2: texts of MaxBytes bytes may stand behind another; what both are may be longer.
func TestCrcMoreOfLongTexts(t *testing.T) {
	text := some(impl.MaxBytes)
	both := int64(crc32.ChecksumIEEE([]byte(text + text)))
	same(t, "twice MaxBytes", impl.CrcMore(impl.Crc(text), text), both)
	same(t, "one more", impl.CrcMore(impl.Crc("a"), text+"a"), 0)
	same(t, "one more behind a wrong CRC", impl.CrcMore(-1, text+"a"), 0)
}

// P2: a CRC is a number of 32 bits.
func TestCrcMoreRange(t *testing.T) {
	for _, crc := range []int64{0, 1, 0x7fffffff, 0x80000000, math.MaxUint32 - 1, math.MaxUint32} {
		name := strconv.FormatInt(crc, 10)
		same(t, name, impl.CrcMore(crc, ""), crc)
		want := int64(crc32.Update(uint32(crc), crc32.IEEETable, []byte("ab")))
		same(t, name+" and ab", impl.CrcMore(crc, "ab"), want)
	}
	for _, crc := range []int64{-1, math.MinInt64, math.MaxUint32 + 1, math.MaxUint32 + 2, math.MaxInt64} {
		name := strconv.FormatInt(crc, 10)
		same(t, name, impl.CrcMore(crc, ""), 0)
		same(t, name+" and ab", impl.CrcMore(crc, "ab"), 0)
	}
}

// P2: the bytes of a seal.
func TestSealBytes(t *testing.T) {
	same(t, "empty", impl.Seal(""), "\x00\x00\x00\x00")
	same(t, "digits", impl.Seal("123456789"), "123456789\x26\x39\xf4\xcb")
	same(t, "zero byte", impl.Seal("\x00"), "\x00\x8d\xef\x02\xd2")
}

// P2: a sealed text comes back, up to the longest one.
func TestSealsComeBack(t *testing.T) {
	for _, size := range []int{0, 1, 2, 3, 4, 5, 64, 256, 1000, impl.MaxBytes - 5, impl.MaxBytes - 4} {
		name := strconv.Itoa(size) + " bytes"
		text := some(size)
		sealed := impl.Seal(text)
		same(t, name+", sealed", len(sealed), size+4)
		same(t, name, impl.Unseal(sealed), impl.TextOut{Text: text})
	}
	same(t, "sealed twice", impl.Unseal(impl.Seal(impl.Seal("ab"))), impl.TextOut{Text: impl.Seal("ab")})
	for _, size := range []int{impl.MaxBytes - 3, impl.MaxBytes, impl.MaxBytes + 1} {
		same(t, strconv.Itoa(size)+" bytes", impl.Seal(some(size)), "")
	}
}

// P2: with one byte turned, any one to any other, a seal is refused.
func TestSealsTurned(t *testing.T) {
	for _, text := range []string{"", "a", "ab\x00", some(20)} {
		sealed := impl.Seal(text)
		for i := range len(sealed) {
			for turn := 1; turn < 256; turn++ {
				l := []byte(sealed)
				l[i] ^= byte(turn)
				same(t, strconv.Quote(string(l)), impl.Unseal(string(l)), impl.TextOut{Code: impl.ErrSum})
			}
		}
	}
	longest := impl.Seal(some(impl.MaxBytes - 4))
	for _, i := range []int{0, 1, 4000, impl.MaxBytes - 5, impl.MaxBytes - 4, impl.MaxBytes - 1} {
		l := []byte(longest)
		l[i] ^= 1
		same(t, "longest, at "+strconv.Itoa(i), impl.Unseal(string(l)), impl.TextOut{Code: impl.ErrSum})
	}
}

// P2: what is no seal is refused, with nothing beside the code.
func TestUnsealRefused(t *testing.T) {
	cases := []struct {
		what string
		text string
		code int64
	}{
		{"empty", "", impl.ErrShort},
		{"one byte", "\x00", impl.ErrShort},
		{"three bytes", "\x00\x00\x00", impl.ErrShort},
		{"four bytes", "abcd", impl.ErrSum},
		{"the highest byte first", "123456789\xcb\xf4\x39\x26", impl.ErrSum},
		{"a byte less", impl.Seal("ab")[:5], impl.ErrSum},
		{"a byte more", impl.Seal("ab") + "\x00", impl.ErrSum},
		{"a byte more ahead", "\x00" + impl.Seal("ab"), impl.ErrSum},
		{"MaxBytes", strings.Repeat("a", impl.MaxBytes), impl.ErrSum},
		{"one more than MaxBytes", strings.Repeat("a", impl.MaxBytes+1), impl.ErrSize},
	}
	for _, c := range cases {
		same(t, c.what, impl.Unseal(c.text), impl.TextOut{Code: c.code})
	}
	// It would be a seal, were it not too long.
	text := some(impl.MaxBytes - 3)
	crc := crc32.ChecksumIEEE([]byte(text))
	sealed := text + string([]byte{byte(crc), byte(crc >> 8), byte(crc >> 16), byte(crc >> 24)})
	same(t, "a seal that is too long", impl.Unseal(sealed), impl.TextOut{Code: impl.ErrSize})
}

// P2: an answer shares no memory with what was handed in.
func TestSealsAreNew(t *testing.T) {
	text := some(100)
	sealed := impl.Seal(text)
	same(t, "Seal", shares(sealed, text), false)
	same(t, "Unseal", shares(impl.Unseal(sealed).Text, sealed), false)
}

func FuzzSeals(f *testing.F) {
	f.Add("123456789")
	f.Add(impl.Seal("ab"))
	f.Fuzz(func(t *testing.T, text string) {
		if len(text) <= impl.MaxBytes-4 {
			same(t, "sealed and back", impl.Unseal(impl.Seal(text)), impl.TextOut{Text: text})
		}
		out := impl.Unseal(text)
		if out.Code != impl.OK {
			same(t, "beside a code", out, impl.TextOut{Code: out.Code})
			return
		}
		same(t, "back and sealed", impl.Seal(out.Text), text)
	})
}
