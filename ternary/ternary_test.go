package ternary_test

import (
	"math"
	"slices"
	"strings"
	"testing"

	"patchbay/api"
	"patchbay/ternary"
)

func invalidWidths() []int {
	return []int{math.MinInt, -65, -64, -1, 0, 65, 66, 128, 1 << 32, 1<<32 + 4, math.MaxInt}
}

// random is a row of numbers that look like no rule, the same ones for the same seed.
type random uint64

func (r *random) bits() uint64 {
	*r = *r*6364136223846793005 + 1442695040888963407
	return uint64(*r)>>32 ^ uint64(*r)<<16
}

func (r *random) below(n int) int { return int((r.bits() >> 8) % uint64(n)) }

// pattern writes a cube of width w by the words of the chapter. What the cube has outside w, and outside its mask, does not show.
func pattern(c api.Cube, w int) string {
	var s strings.Builder
	for i := w - 1; i >= 0; i-- {
		switch {
		case c.Mask>>i%2 == 0:
			s.WriteByte('x')
		case c.Value>>i%2 == 0:
			s.WriteByte('0')
		default:
			s.WriteByte('1')
		}
	}
	return s.String()
}

// cube reads a pattern.
func cube(s string) api.Cube {
	var c api.Cube
	for i := range len(s) {
		bit := uint64(1) << (len(s) - 1 - i)
		if s[i] != 'x' {
			c.Mask += bit
		}
		if s[i] == '1' {
			c.Value += bit
		}
	}
	return c
}

// patterns answers all patterns of width w.
func patterns(w int) []string {
	if w == 0 {
		return []string{""}
	}
	var l []string
	for _, s := range patterns(w - 1) {
		l = append(l, s+"0", s+"1", s+"x")
	}
	return l
}

// written answers all cubes of values and masks below 2^w, also those whose value has bits outside the mask.
func written(w int) []api.Cube {
	var l []api.Cube
	for v := range uint64(1) << w {
		for m := range uint64(1) << w {
			l = append(l, api.Cube{Value: v, Mask: m})
		}
	}
	return l
}

// wide answers pseudo-random cubes of 64 bits with few, half or most of the bits free, some of them near the others.
func wide(n int, seed random) []api.Cube {
	l := []api.Cube{{}, {Value: math.MaxUint64}, {Mask: math.MaxUint64}, {Value: math.MaxUint64, Mask: math.MaxUint64}, {Value: 1 << 63, Mask: 1 << 63}, {Value: 1, Mask: 1}}
	for len(l) < n {
		c := api.Cube{Value: seed.bits(), Mask: seed.bits()}
		switch seed.below(4) {
		case 0:
			c.Mask &= seed.bits() & seed.bits()
		case 1:
			c.Mask |= seed.bits() | seed.bits()
		case 2:
			c = l[seed.below(len(l))]
			c.Mask &= seed.bits()
		}
		l = append(l, c)
	}
	return l
}

// has reports whether c contains n, bit by bit.
func has(c api.Cube, n uint64) bool {
	for i := range 64 {
		if c.Mask>>i%2 == 1 && c.Value>>i%2 != n>>i%2 {
			return false
		}
	}
	return true
}

func numbers(c api.Cube, w int) []uint64 {
	var l []uint64
	for n := range uint64(1) << w {
		if has(c, n) {
			l = append(l, n)
		}
	}
	return l
}

func isCanonical(c api.Cube) bool { return c.Value&^c.Mask == 0 }

func expectCheck(t *testing.T, c api.Cube, w int, want api.Errno) {
	t.Helper()
	if e := ternary.Check(c, w); e != want {
		t.Errorf("Check(%#x, %d) = %v, want %v", c, w, e, want)
	}
	if s, e := ternary.Format(c, w); e != want || e != api.OK && s != "" {
		t.Errorf("Format(%#x, %d) = %q, %v, want %v", c, w, s, e, want)
	}
}

// P7.1, P7.5: every width, with bits of the mask and of the value in and out of their places.
func TestCheck(t *testing.T) {
	for w := 1; w <= 64; w++ {
		all := uint64(math.MaxUint64) >> (64 - w)
		expectCheck(t, api.Cube{}, w, api.OK)
		expectCheck(t, api.Cube{Mask: all}, w, api.OK)
		expectCheck(t, api.Cube{Value: all, Mask: all}, w, api.OK)
		expectCheck(t, api.Cube{Value: all, Mask: all >> 1}, w, api.ErrSyntax)
		expectCheck(t, api.Cube{Value: all}, w, api.ErrSyntax)
		for i := range 64 {
			bit := uint64(1) << i
			if i < w {
				expectCheck(t, api.Cube{Value: bit, Mask: bit}, w, api.OK)
				expectCheck(t, api.Cube{Value: bit, Mask: all &^ bit}, w, api.ErrSyntax)
				continue
			}
			expectCheck(t, api.Cube{Mask: bit}, w, api.ErrRange)
			expectCheck(t, api.Cube{Value: bit, Mask: all | bit}, w, api.ErrRange)
			expectCheck(t, api.Cube{Value: bit, Mask: all}, w, api.ErrSyntax)
		}
	}
}

// P7.1, P7.5: the width is told ahead of the mask, and the mask ahead of the value.
func TestCheckOrder(t *testing.T) {
	for _, w := range invalidWidths() {
		for _, c := range []api.Cube{{}, {Mask: math.MaxUint64}, {Value: 1}, {Value: 4, Mask: 3}, {Value: math.MaxUint64, Mask: 1 << 63}} {
			expectCheck(t, c, w, api.ErrWidth)
		}
	}
	for w := 1; w < 64; w++ {
		expectCheck(t, api.Cube{Value: 1, Mask: 1 << w}, w, api.ErrRange)
		expectCheck(t, api.Cube{Value: math.MaxUint64, Mask: 1 << 63}, w, api.ErrRange)
	}
}

// P7.1
func TestContains(t *testing.T) {
	for _, c := range written(4) {
		for n := range uint64(32) {
			if got := ternary.Contains(c, n); got != has(c, n) {
				t.Errorf("Contains(%#x, %d) = %v", c, n, got)
			}
		}
	}
	l := wide(60, 1)
	for _, c := range l {
		for _, d := range l {
			for _, n := range []uint64{d.Value, c.Value ^ d.Value&^c.Mask, c.Value ^ 1, c.Value ^ 1<<63, c.Value & c.Mask} {
				if got := ternary.Contains(c, n); got != has(c, n) {
					t.Errorf("Contains(%#x, %#x) = %v", c, n, got)
				}
			}
		}
	}
}

// meetPattern answers the pattern of the numbers of both patterns, character by character.
func meetPattern(a, b string) (string, bool) {
	l := []byte(a)
	for i := range l {
		switch {
		case l[i] == 'x':
			l[i] = b[i]
		case b[i] != 'x' && b[i] != l[i]:
			return "", false
		}
	}
	return string(l), true
}

func expectIntersect(t *testing.T, a, b api.Cube, w int) {
	t.Helper()
	var want api.Cube
	s, is := meetPattern(pattern(a, w), pattern(b, w))
	if is {
		want = cube(s)
	}
	c, ok := ternary.Intersect(a, b)
	if c != want || ok != is {
		t.Errorf("Intersect(%#x, %#x) = %#x, %v, want %#x, %v", a, b, c, ok, want, is)
	}
	if ok && (c.Mask != a.Mask|b.Mask || !isCanonical(c)) {
		t.Errorf("Intersect(%#x, %#x) has the mask %#x", a, b, c.Mask)
	}
}

// P7.2
func TestIntersect(t *testing.T) {
	for _, a := range written(4) {
		for _, b := range written(4) {
			expectIntersect(t, a, b, 4)
		}
	}
	for _, a := range wide(150, 2) {
		for _, b := range wide(150, 3) {
			expectIntersect(t, a, b, 64)
		}
	}
}

// P7.2: a number is in the intersection exactly if it is in both.
func TestIntersectNumbers(t *testing.T) {
	for _, a := range written(3) {
		for _, b := range written(3) {
			c, ok := ternary.Intersect(a, b)
			for n := range uint64(8) {
				if both := has(a, n) && has(b, n); both != (ok && has(c, n)) {
					t.Errorf("Intersect(%#x, %#x) = %#x, %v at %d", a, b, c, ok, n)
				}
			}
		}
	}
}

// P7.2: by the numbers that the cubes contain.
func TestSubset(t *testing.T) {
	for _, a := range written(4) {
		for _, b := range written(4) {
			want := true
			for _, n := range numbers(a, 4) {
				want = want && has(b, n)
			}
			if got := ternary.Subset(a, b); got != want {
				t.Errorf("Subset(%#x, %#x) = %v", a, b, got)
			}
		}
	}
}

// P7.2: by the patterns.
func TestSubsetOfWideCubes(t *testing.T) {
	subsets := 0
	for _, a := range wide(150, 4) {
		for _, b := range wide(150, 4) {
			s, ok := meetPattern(pattern(a, 64), pattern(b, 64))
			want := ok && s == pattern(a, 64)
			if got := ternary.Subset(a, b); got != want {
				t.Errorf("Subset(%#x, %#x) = %v", a, b, got)
			}
			if want {
				subsets++
			}
		}
	}
	if subsets < 300 {
		t.Errorf("only %d subsets", subsets)
	}
}

// wantDifference cuts a pattern by the words of the chapter.
func wantDifference(a, b string) []api.Cube {
	if _, meets := meetPattern(a, b); !meets {
		return []api.Cube{cube(a)}
	}
	var l []api.Cube
	for i := range len(a) {
		if a[i] != 'x' || b[i] == 'x' {
			continue
		}
		agreeing := a[:i]
		if b[i] == '0' {
			l = append(l, cube(agreeing+"1"+a[i+1:]))
		} else {
			l = append(l, cube(agreeing+"0"+a[i+1:]))
		}
		a = agreeing + b[i:i+1] + a[i+1:]
	}
	return l
}

func expectSubtract(t *testing.T, a, b api.Cube, w int) {
	t.Helper()
	if l, want := ternary.Subtract(a, b, w), wantDifference(pattern(a, w), pattern(b, w)); !slices.Equal(l, want) {
		t.Errorf("Subtract(%#x, %#x, %d) = %#x, want %#x", a, b, w, l, want)
	}
}

// P7.3: all small cubes, at widths that cut them and at one beyond.
func TestSubtract(t *testing.T) {
	for _, a := range written(4) {
		for _, b := range written(4) {
			for w := 1; w <= 5; w++ {
				expectSubtract(t, a, b, w)
			}
		}
	}
}

// P7.3
func TestSubtractWideCubes(t *testing.T) {
	for _, a := range wide(120, 5) {
		for _, b := range wide(120, 6) {
			for _, w := range []int{1, 2, 31, 32, 33, 63, 64} {
				expectSubtract(t, a, b, w)
			}
		}
	}
}

// P7.3: from nothing to 64 pieces.
func TestSubtractNumberFromAll(t *testing.T) {
	const n = 0x8000000000000005
	for w := 1; w <= 64; w++ {
		l := ternary.Subtract(api.Cube{}, api.Cube{Value: n, Mask: math.MaxUint64}, w)
		if len(l) != w {
			t.Fatalf("width %d: %d pieces", w, len(l))
		}
		for i, c := range l {
			bit := w - 1 - i
			mask := uint64(1)<<w - uint64(1)<<bit // 1<<64 is 0
			if c.Mask != mask || c.Value != (n^1<<bit)&mask {
				t.Errorf("width %d: piece %d is %#x", w, i, c)
			}
		}
	}
}

// P7.3: masks at the width and above are not looked at, and do not come back.
func TestSubtractAboveWidth(t *testing.T) {
	for _, x := range []struct {
		a, b api.Cube
		want []api.Cube
	}{
		{api.Cube{Value: 0x10, Mask: 0x10}, api.Cube{Mask: 0x10}, nil},
		{api.Cube{Value: 0x1f, Mask: 0xf3}, api.Cube{Value: 0, Mask: 1}, []api.Cube{{Value: 3, Mask: 3}}},
		{api.Cube{Value: 0x1f, Mask: 0xf0}, api.Cube{Value: 0xf1, Mask: 0xf1}, []api.Cube{{Value: 0, Mask: 1}}},
		{api.Cube{}, api.Cube{Value: math.MaxUint64, Mask: math.MaxUint64 - 15}, nil},
	} {
		if l := ternary.Subtract(x.a, x.b, 4); !slices.Equal(l, x.want) {
			t.Errorf("Subtract(%#x, %#x, 4) = %#x, want %#x", x.a, x.b, l, x.want)
		}
	}
}

// P7.3, P7.4
func TestInvalidWidth(t *testing.T) {
	for _, w := range invalidWidths() {
		for _, c := range wide(10, 7) {
			for _, d := range wide(10, 8) {
				if l := ternary.Subtract(c, d, w); len(l) != 0 {
					t.Errorf("Subtract(%#x, %#x, %d) = %#x", c, d, w, l)
				}
			}
			if n := ternary.FreeBits(c, w); n != 0 {
				t.Errorf("FreeBits(%#x, %d) = %d", c, w, n)
			}
		}
	}
}

// P7.3: what a call answers is its own.
func TestSubtractFresh(t *testing.T) {
	for _, b := range []string{"1010", "x0xx", "0x1x"} {
		first := ternary.Subtract(cube("xx1x"), cube(b), 4)
		for i := range first {
			first[i] = api.Cube{Value: 9, Mask: 9}
		}
		expectSubtract(t, cube("xx1x"), cube(b), 4)
	}
}

// P7.4
func TestFreeBits(t *testing.T) {
	for _, c := range wide(100, 9) {
		for w := 1; w <= 64; w++ {
			if got, want := ternary.FreeBits(c, w), strings.Count(pattern(c, w), "x"); got != want {
				t.Errorf("FreeBits(%#x, %d) = %d, want %d", c, w, got, want)
			}
		}
	}
}

// P7.4
func TestMin(t *testing.T) {
	for _, c := range written(5) {
		if got, want := ternary.Min(c), numbers(c, 5)[0]; got != want {
			t.Errorf("Min(%#x) = %d, want %d", c, got, want)
		}
	}
	for _, c := range wide(100, 10) {
		n := ternary.Min(c)
		if !has(c, n) {
			t.Errorf("Min(%#x) = %#x is not in it", c, n)
		}
		for i := range 64 {
			if n>>i%2 == 1 && has(c, n-1<<i) {
				t.Errorf("Min(%#x) = %#x, but there is a smaller one", c, n)
			}
		}
	}
}

// P7.5, P7.8: all patterns of small widths, and pseudo-random ones of all widths.
func TestFormatAndParse(t *testing.T) {
	var all []string
	for w := 1; w <= 7; w++ {
		all = append(all, patterns(w)...)
	}
	for w := 1; w <= 64; w++ {
		for _, c := range wide(40, random(w)) {
			all = append(all, pattern(c, w))
		}
	}
	for _, s := range all {
		c := cube(s)
		if got, e := ternary.Format(c, len(s)); got != s || e != api.OK {
			t.Errorf("Format(%#x, %d) = %q, %v, want %q", c, len(s), got, e, s)
		}
		if got, w, e := ternary.Parse(s); got != c || w != len(s) || e != api.OK {
			t.Errorf("Parse(%q) = %#x, %d, %v, want %#x", s, got, w, e, c)
		}
	}
}

// P7.8: each composed with the other.
func TestRoundTrip(t *testing.T) {
	for w := 1; w <= 64; w++ {
		for _, c := range wide(40, random(100+w)) {
			c.Mask &= uint64(math.MaxUint64) >> (64 - w)
			c.Value &= c.Mask
			s, e := ternary.Format(c, w)
			if e != api.OK || len(s) != w {
				t.Fatalf("Format(%#x, %d) = %q, %v", c, w, s, e)
			}
			back, width, e := ternary.Parse(s)
			if back != c || width != w || e != api.OK {
				t.Errorf("Parse(%q) = %#x, %d, %v, want %#x", s, back, width, e, c)
			}
			if again, _ := ternary.Format(back, width); again != s {
				t.Errorf("Format of Parse of %q is %q", s, again)
			}
		}
	}
}

func expectNoParse(t *testing.T, s string, want api.Errno) {
	t.Helper()
	if c, w, e := ternary.Parse(s); c != (api.Cube{}) || w != 0 || e != want {
		t.Errorf("Parse(%q) = %#x, %d, %v, want %v", s, c, w, e, want)
	}
}

// P7.5: that a pattern is too long is told ahead of its characters.
func TestParseLengths(t *testing.T) {
	expectNoParse(t, "", api.ErrShort)
	for _, fill := range []string{"0", "1", "x", "a", "X", " ", "\x00", "é"} {
		for _, n := range []int{65, 66, 100, 1000, 1 << 16} {
			expectNoParse(t, strings.Repeat(fill, n), api.ErrLong)
		}
	}
	expectNoParse(t, strings.Repeat("x", 64)+"\n", api.ErrLong)
	expectNoParse(t, "x"+strings.Repeat("é", 32), api.ErrLong)
	expectNoParse(t, strings.Repeat("é", 32), api.ErrSyntax)
}

// P7.5: each byte, at the beginning, in the middle and at the end, also of the longest pattern.
func TestParseBytes(t *testing.T) {
	for i := range 256 {
		s := string([]byte{byte(i)})
		for _, text := range []string{s, s + "01x", "01" + s + "x", "01x" + s, strings.Repeat("x", 63) + s, s + strings.Repeat("1", 63)} {
			if !strings.Contains("01x", s) {
				expectNoParse(t, text, api.ErrSyntax)
			} else if c, w, e := ternary.Parse(text); c != cube(text) || w != len(text) || e != api.OK {
				t.Errorf("Parse(%q) = %#x, %d, %v", text, c, w, e)
			}
		}
	}
}

// P7.6
func TestDifference(t *testing.T) {
	const w = 4
	for _, a := range written(w) {
		for _, b := range written(w) {
			l := ternary.Subtract(a, b, w)
			for n := range uint64(1) << w {
				containing := 0
				for _, c := range l {
					if has(c, n) {
						containing++
					}
				}
				if is := has(a, n) && !has(b, n); is && containing != 1 || !is && containing != 0 {
					t.Fatalf("Subtract(%#x, %#x, %d) = %#x: %d is in %d of them", a, b, w, l, n, containing)
				}
			}
		}
	}
}

// P7.6: as the cubes are disjoint, they hold as many numbers as there are in a alone.
func TestDifferenceOfWideCubes(t *testing.T) {
	const w = 62
	for _, a := range wide(100, 11) {
		for _, b := range wide(100, 12) {
			left := uint64(1) << ternary.FreeBits(a, w)
			if c, ok := ternary.Intersect(api.Cube{Value: a.Value, Mask: a.Mask &^ (3 << w)}, api.Cube{Value: b.Value, Mask: b.Mask &^ (3 << w)}); ok {
				left -= 1 << ternary.FreeBits(c, w)
			}
			l := ternary.Subtract(a, b, w)
			for i, c := range l {
				left -= 1 << ternary.FreeBits(c, w)
				for _, d := range l[:i] {
					if _, ok := ternary.Intersect(c, d); ok {
						t.Errorf("Subtract(%#x, %#x, %d): %#x and %#x are not disjoint", a, b, w, c, d)
					}
				}
			}
			if left != 0 {
				t.Errorf("Subtract(%#x, %#x, %d) = %#x: %d numbers are amiss", a, b, w, l, left)
			}
		}
	}
}

// P7.7
func TestOrder(t *testing.T) {
	all := written(3)
	for _, a := range all {
		if !ternary.Subset(a, a) {
			t.Errorf("Subset(%#x, %#x) = false", a, a)
		}
		for _, b := range all {
			if c, ok := ternary.Intersect(a, b); ok && !(ternary.Subset(c, a) && ternary.Subset(c, b)) {
				t.Errorf("Intersect(%#x, %#x) = %#x is no subset of both", a, b, c)
			}
			if !ternary.Subset(a, b) {
				continue
			}
			if ternary.Subset(b, a) && !slices.Equal(numbers(a, 3), numbers(b, 3)) {
				t.Errorf("%#x and %#x are subsets of each other", a, b)
			}
			for _, c := range all {
				if ternary.Subset(b, c) && !ternary.Subset(a, c) {
					t.Errorf("%#x, %#x, %#x: Subset is not transitive", a, b, c)
				}
			}
		}
	}
}

// The chapter's examples.
func TestExamples(t *testing.T) {
	if c := (api.Cube{Value: 1, Mask: 3}); c != cube("xx01") {
		t.Errorf("xx01 is %v", c)
	}
	if c, ok := ternary.Intersect(cube("xx01"), cube("1xxx")); c != cube("1x01") || !ok {
		t.Errorf("Intersect = %v, %v", c, ok)
	}
	if l := ternary.Subtract(cube("xxxx"), cube("10xx"), 4); !slices.Equal(l, []api.Cube{cube("0xxx"), cube("11xx")}) {
		t.Errorf("Subtract = %v", l)
	}
	if n, free := ternary.Min(cube("1x01")), ternary.FreeBits(cube("1x01"), 4); n != 9 || free != 1 {
		t.Errorf("Min = %d, FreeBits = %d", n, free)
	}
	expectCheck(t, api.Cube{Value: 4, Mask: 3}, 4, api.ErrSyntax)
	expectCheck(t, api.Cube{Value: 4, Mask: 3}, 1, api.ErrRange)
	expectCheck(t, api.Cube{Value: 4, Mask: 3}, 65, api.ErrWidth)
	expectNoParse(t, "01a", api.ErrSyntax)
}
