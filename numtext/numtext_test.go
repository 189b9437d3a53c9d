package numtext_test

import (
	"bytes"
	"encoding/hex"
	"math"
	"strconv"
	"strings"
	"testing"

	"patchbay/numtext"
)

// ints holds the edges of int, and the numbers round each power of two and of ten, with both signs.
func ints() []int {
	l := []int{math.MinInt, math.MinInt + 1, math.MaxInt, 42, 123456789, 987654321, 1029384756}
	for i := range 63 {
		p := 1 << i
		l = append(l, p-1, p, p+1, 1-p, -p, -1-p)
	}
	for p := 1; p <= math.MaxInt/10; p *= 10 {
		l = append(l, p-1, p, p+1, 7*p, 1-p, -p, -1-p, -7*p)
	}
	return l
}

func uint32s() []uint32 {
	l := []uint32{42, 123456789, 4294967290, math.MaxUint32}
	for i := range 32 {
		p := uint32(1) << i
		l = append(l, p-1, p, p+1)
	}
	for p := uint64(1); p < 1<<32; p *= 10 {
		l = append(l, uint32(p-1), uint32(p), uint32(p+1))
	}
	return l
}

// texts holds every text of up to n bytes of the alphabet.
func texts(alphabet string, n int) []string {
	l := []string{""}
	for first := 0; n > 0; n-- {
		last := len(l)
		for _, s := range l[first:last] {
			for i := range len(alphabet) {
				l = append(l, s+alphabet[i:i+1])
			}
		}
		first = last
	}
	return l
}

// spoilt holds s with each byte put at each place of it, between its bytes or instead of one.
func spoilt(s string) []string {
	var l []string
	for c := range 256 {
		b := string([]byte{byte(c)})
		for i := range len(s) {
			l = append(l, s[:i]+b+s[i:], s[:i]+b+s[i+1:])
		}
		l = append(l, s+b)
	}
	return l
}

// oddTexts holds what other parsers of numbers take, and longer texts.
func oddTexts() []string {
	return []string{
		"", "-", "+", "+1", "-0", "+0", "00", "007", "-007", "--1", "-+1", "1-", "- 1", " 1", "1 ", "\t1", "1\n", "\x001", "1\x00",
		"1_000", "1,000", "1.0", "1e3", "0b1", "0o7", "0x", "0X1", "0xg", "0x-1", "0x+1", "0x 1", "0x1 ", " 0x1", "-0x1", "x1", "00x1", "0x0x1",
		"0xFF", "0xfF", "0xaB", "0xABCDEF", "0x0", "0x00", "0x00000000", "0x000000000", "0xffffffff", "0x0ffffffff", "0x100000000",
		"0x12345678", "0x123456789", "0x9abcdef0", "0x1_0", "ff", "a", "f",
		"99999999", "999999999", "1000000000", "1234567890", "0123456789", "000000000", "-999999999", "-1000000000", "-99999999",
		"4294967295", "4294967296", "4294967297", "4300000000", "9999999999", "10000000000", "42949672950", "04294967295",
		"18446744073709551615", "18446744073709551616", "18446744073709551617", "-9223372036854775808", "9223372036854775807",
		"٣", "１", "−1", "½", strings.Repeat("0", 5000) + "1", strings.Repeat("1", 5000), "0x" + strings.Repeat("0", 5000), "-" + strings.Repeat("9", 5000),
	}
}

func numberTexts() []string {
	l := append(oddTexts(), texts("-+019a xX", 4)...)
	for _, s := range []string{"5", "-5", "12", "100", "123456789", "-123456789", "4294967295", "0x7", "0xa0", "0x0000beef"} {
		l = append(l, spoilt(s)...)
	}
	for _, n := range ints() {
		l = append(l, strconv.Itoa(n))
	}
	return l
}

// P3.1: every int, from the least to the greatest one.
func TestFormatInt(t *testing.T) {
	for _, n := range ints() {
		if got := numtext.FormatInt(n); got != strconv.Itoa(n) {
			t.Errorf("FormatInt(%d) = %q", n, got)
		}
	}
	for n := -2000; n <= 2000; n++ {
		if got := numtext.FormatInt(n); got != strconv.Itoa(n) {
			t.Errorf("FormatInt(%d) = %q", n, got)
		}
	}
}

// P3.1
func TestFormatUint32(t *testing.T) {
	for _, v := range uint32s() {
		if got := numtext.FormatUint32(v); got != strconv.FormatUint(uint64(v), 10) {
			t.Errorf("FormatUint32(%d) = %q", v, got)
		}
	}
}

// P3.2: the texts that are one int's text of at most nine digits, and no others.
func TestParseInt(t *testing.T) {
	for _, s := range numberTexts() {
		want, err := strconv.Atoi(s)
		is := err == nil && strconv.Itoa(want) == s && len(strings.TrimPrefix(s, "-")) <= 9
		if !is {
			want = 0
		}
		if got, ok := numtext.ParseInt(s); got != want || ok != is {
			t.Errorf("ParseInt(%.20q) = %d, %v, want %d, %v", s, got, ok, want, is)
		}
	}
}

// P3.2: the texts that the promise names.
func TestParseIntRejects(t *testing.T) {
	for _, s := range []string{"", "-", "+1", "-0", "007", " 7", "7 ", " 7 ", "1234567890", "-1234567890"} {
		if got, ok := numtext.ParseInt(s); got != 0 || ok {
			t.Errorf("ParseInt(%q) = %d, %v", s, got, ok)
		}
	}
}

func wantUint32(s string) (uint32, bool) {
	if digits, is := strings.CutPrefix(s, "0x"); is {
		v, err := strconv.ParseUint(digits, 16, 32)
		is = err == nil && len(digits) <= 8 && digits == strings.ToLower(digits)
		if !is {
			v = 0
		}
		return uint32(v), is
	}
	v, err := strconv.ParseUint(s, 10, 32)
	if err != nil || strconv.FormatUint(v, 10) != s {
		return 0, false
	}
	return uint32(v), true
}

// P3.3: decimal texts, and hexadecimal ones with and without leading zeros.
func TestParseUint32(t *testing.T) {
	for _, s := range append(numberTexts(), texts("0xfFg", 5)...) {
		want, is := wantUint32(s)
		if got, ok := numtext.ParseUint32(s); got != want || ok != is {
			t.Errorf("ParseUint32(%.20q) = %d, %v, want %d, %v", s, got, ok, want, is)
		}
	}
}

// P3.3
func TestParseUint32Hexadecimal(t *testing.T) {
	for _, v := range uint32s() {
		digits := strconv.FormatUint(uint64(v), 16)
		for ; len(digits) <= 8; digits = "0" + digits {
			if got, ok := numtext.ParseUint32("0x" + digits); got != v || !ok {
				t.Errorf("ParseUint32(0x%s) = %d, %v", digits, got, ok)
			}
		}
		if got, ok := numtext.ParseUint32("0x" + digits); got != 0 || ok {
			t.Errorf("ParseUint32(0x%s) = %d, %v", digits, got, ok)
		}
	}
}

// P3.3
func TestParseUint32Rejects(t *testing.T) {
	for _, s := range []string{"", "0x", "0xFF", "0XFF", "0xfF", "0x000000001", "4294967296", "-1", "+1", "01", " 1", "1 ", "0x1 ", "ff"} {
		if got, ok := numtext.ParseUint32(s); got != 0 || ok {
			t.Errorf("ParseUint32(%q) = %d, %v", s, got, ok)
		}
	}
}

func allBytes() []byte {
	b := make([]byte, 256)
	for i := range b {
		b[i] = byte(i)
	}
	return b
}

// P3.4
func TestEncodeHex(t *testing.T) {
	for _, b := range [][]byte{nil, {}, {0}, {10, 255}, {1, 35, 69, 103, 137, 171, 205, 239}, allBytes()} {
		if got := numtext.EncodeHex(b); got != hex.EncodeToString(b) {
			t.Errorf("EncodeHex(%v) = %q", b, got)
		}
	}
	if got := numtext.EncodeHex([]byte{10, 255}); got != "0aff" {
		t.Errorf("EncodeHex of the example: %q", got)
	}
}

// P3.4: neither is the argument changed, nor is a byte behind its length told.
func TestEncodeHexLeavesItsArgument(t *testing.T) {
	b := []byte{1, 2, 3, 4}
	if got := numtext.EncodeHex(b[:2]); got != "0102" || !bytes.Equal(b, []byte{1, 2, 3, 4}) {
		t.Errorf("EncodeHex = %q, and its argument is %v", got, b)
	}
}

// P3.4: each text of two bytes.
func TestDecodeHexByte(t *testing.T) {
	for i := range 256 * 256 {
		s := string([]byte{byte(i >> 8), byte(i)})
		want, err := hex.DecodeString(s)
		is := err == nil && s == strings.ToLower(s)
		if !is {
			want = nil
		}
		if got, ok := numtext.DecodeHex(s); !bytes.Equal(got, want) || ok != is {
			t.Fatalf("DecodeHex(%q) = %v, %v", s, got, ok)
		}
	}
}

// P3.4
func TestDecodeHexRejects(t *testing.T) {
	for _, s := range []string{"0", "a", "0a1", "0a1b2", "0A", "0aFF", "0g", "g0", " 0a", "0a ", "0a 1b", "0x0a", "0a\n", "-1", "00zz", "zz00", "0\x00", "éé", strings.Repeat("f", 1001)} {
		if got, ok := numtext.DecodeHex(s); len(got) != 0 || ok {
			t.Errorf("DecodeHex(%.20q) = %v, %v", s, got, ok)
		}
	}
}

// P3.4
func TestDecodeHexEmpty(t *testing.T) {
	if got, ok := numtext.DecodeHex(""); len(got) != 0 || !ok {
		t.Errorf("DecodeHex of nothing: %v, %v", got, ok)
	}
}

// P3.4: each call's bytes are its own.
func TestDecodeHexFresh(t *testing.T) {
	first, _ := numtext.DecodeHex("0102")
	first[0] = 9
	if got, ok := numtext.DecodeHex("0102"); !ok || !bytes.Equal(got, []byte{1, 2}) {
		t.Errorf("DecodeHex the second time: %v, %v", got, ok)
	}
}

// P3.5
func TestRoundTripInt(t *testing.T) {
	for _, n := range ints() {
		is := -999999999 <= n && n <= 999999999
		got, ok := numtext.ParseInt(numtext.FormatInt(n))
		if ok != is || is && got != n {
			t.Errorf("ParseInt(FormatInt(%d)) = %d, %v", n, got, ok)
		}
	}
	for n := -999999999; n <= 999999999; n += 100003 {
		if got, ok := numtext.ParseInt(numtext.FormatInt(n)); got != n || !ok {
			t.Errorf("ParseInt(FormatInt(%d)) = %d, %v", n, got, ok)
		}
	}
}

// P3.5
func TestRoundTripUint32(t *testing.T) {
	for _, v := range uint32s() {
		if got, ok := numtext.ParseUint32(numtext.FormatUint32(v)); got != v || !ok {
			t.Errorf("ParseUint32(FormatUint32(%d)) = %d, %v", v, got, ok)
		}
	}
}

// P3.5
func TestRoundTripHex(t *testing.T) {
	all := allBytes()
	for n := range len(all) + 1 {
		text := numtext.EncodeHex(all[n:])
		got, ok := numtext.DecodeHex(text)
		if !ok || !bytes.Equal(got, all[n:]) || numtext.EncodeHex(got) != text {
			t.Errorf("DecodeHex(%.20q) = %v, %v", text, got, ok)
		}
	}
}
