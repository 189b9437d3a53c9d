package cubeset_test

import (
	"fmt"
	"math"
	"slices"
	"testing"

	"patchbay/api"
	"patchbay/cubeset"
	"patchbay/ternary"
)

// random is a row of numbers that look like no rule, the same ones for the same seed.
type random uint64

func (r *random) bits() uint64 {
	*r = *r*6364136223846793005 + 1442695040888963407
	return uint64(*r)>>32 ^ uint64(*r)<<16
}

func (r *random) below(n int) int { return int((r.bits() >> 8) % uint64(n)) }

// list answers up to most cubes of w bits, as often as not with bits of the value outside the mask and with bits above w.
func (r *random) list(most, w int) []api.Cube {
	var l []api.Cube
	for range r.below(most + 1) {
		c := api.Cube{Value: r.bits(), Mask: r.bits()}
		switch r.below(4) {
		case 0:
			c.Mask |= r.bits()
		case 1:
			c.Mask &= r.bits()
		case 2:
			if len(l) > 0 {
				c.Mask = l[r.below(len(l))].Mask & r.bits()
			}
		}
		if r.below(2) == 0 {
			c.Value &= c.Mask
		}
		if r.below(2) == 0 {
			c.Value &= uint64(1)<<w - 1
			c.Mask &= uint64(1)<<w - 1
		}
		l = append(l, c)
	}
	return l
}

// cubes reads patterns.
func cubes(patterns ...string) []api.Cube {
	var l []api.Cube
	for _, s := range patterns {
		c, _, _ := ternary.Parse(s)
		l = append(l, c)
	}
	return l
}

// singles answers n numbers from first on, each as a cube of w bits.
func singles(first, n uint64, w int) []api.Cube {
	var l []api.Cube
	for i := range n {
		l = append(l, api.Cube{Value: first + i, Mask: uint64(math.MaxUint64) >> (64 - w)})
	}
	return l
}

func has(s []api.Cube, n uint64) bool {
	for _, c := range s {
		if (c.Value^n)&c.Mask == 0 {
			return true
		}
	}
	return false
}

// isRedundant is asked by the words of the chapter.
func isRedundant(l []api.Cube, i int) bool {
	for j, c := range l {
		if j == i || !ternary.Subset(l[i], c) {
			continue
		}
		if j < i || !ternary.Subset(c, l[i]) {
			return true
		}
	}
	return false
}

func wantSimplified(s []api.Cube) []api.Cube {
	var l []api.Cube
	for i, c := range s {
		if !isRedundant(s, i) {
			l = append(l, api.Cube{Value: c.Value & c.Mask, Mask: c.Mask})
		}
	}
	return l
}

// runs performs steps on a list by the words of the chapter.
func runs(l []api.Cube, steps int, step func(l []api.Cube, i int) []api.Cube) ([]api.Cube, api.Errno) {
	for i := range steps {
		l = wantSimplified(step(l, i))
		if len(l) > api.MaxCubes {
			return nil, api.ErrLimit
		}
	}
	return l, api.OK
}

func wantUnion(a, b []api.Cube) ([]api.Cube, api.Errno) {
	return runs(slices.Clone(a), 1, func(l []api.Cube, _ int) []api.Cube { return append(l, b...) })
}

func wantIntersection(a, b []api.Cube) ([]api.Cube, api.Errno) {
	return runs(nil, len(a), func(l []api.Cube, i int) []api.Cube {
		for _, c := range b {
			if common, ok := ternary.Intersect(a[i], c); ok {
				l = append(l, common)
			}
		}
		return l
	})
}

func wantDifference(a, b []api.Cube, w int) ([]api.Cube, api.Errno) {
	if w < 1 || w > 64 {
		return nil, api.ErrWidth
	}
	return runs(nil, len(b)+1, func(l []api.Cube, i int) []api.Cube {
		var next []api.Cube
		if i == 0 {
			for _, c := range a {
				next = append(next, api.Cube{Value: c.Value, Mask: c.Mask & (uint64(math.MaxUint64) >> (64 - w))})
			}
			return next
		}
		for _, c := range l {
			next = append(next, ternary.Subtract(c, b[i-1], w)...)
		}
		return next
	})
}

func wantCount(s []api.Cube, w int) (uint64, api.Errno) {
	if w < 1 || w > 62 {
		return 0, api.ErrWidth
	}
	n := uint64(0)
	for i := range s {
		l, e := wantDifference(s[i:i+1], s[:i], w)
		if e != api.OK {
			return 0, e
		}
		for _, c := range l {
			n += 1 << ternary.FreeBits(c, w)
		}
	}
	return n, api.OK
}

// shown is what a failing test prints of a list.
func shown(l []api.Cube) string {
	if len(l) > 12 {
		return fmt.Sprintf("%d cubes, at first %#x", len(l), l[:6])
	}
	return fmt.Sprintf("%#x", l)
}

func expectList(t *testing.T, what string, l []api.Cube, e api.Errno, want []api.Cube, wantError api.Errno) {
	t.Helper()
	if !slices.Equal(l, want) || e != wantError {
		t.Errorf("%s = %s, %v, want %s, %v", what, shown(l), e, shown(want), wantError)
	}
}

func expectUnion(t *testing.T, a, b, want []api.Cube, wantError api.Errno) {
	t.Helper()
	l, e := cubeset.Union(a, b)
	expectList(t, "Union", l, e, want, wantError)
}

func expectIntersect(t *testing.T, a, b, want []api.Cube, wantError api.Errno) {
	t.Helper()
	l, e := cubeset.Intersect(a, b)
	expectList(t, "Intersect", l, e, want, wantError)
}

func expectSubtract(t *testing.T, a, b []api.Cube, w int, want []api.Cube, wantError api.Errno) {
	t.Helper()
	l, e := cubeset.Subtract(a, b, w)
	expectList(t, "Subtract", l, e, want, wantError)
}

func expectComplement(t *testing.T, a []api.Cube, w int, want []api.Cube, wantError api.Errno) {
	t.Helper()
	l, e := cubeset.Complement(a, w)
	expectList(t, "Complement", l, e, want, wantError)
}

func expectSimplify(t *testing.T, a, want []api.Cube) {
	t.Helper()
	expectList(t, "Simplify", cubeset.Simplify(a), api.OK, want, api.OK)
}

func expectSubset(t *testing.T, a, b []api.Cube, w int, want bool, wantError api.Errno) {
	t.Helper()
	if is, e := cubeset.Subset(a, b, w); is != want || e != wantError {
		t.Errorf("Subset(%s, %s, %d) = %v, %v, want %v, %v", shown(a), shown(b), w, is, e, want, wantError)
	}
}

func expectEqual(t *testing.T, a, b []api.Cube, w int, want bool, wantError api.Errno) {
	t.Helper()
	if is, e := cubeset.Equal(a, b, w); is != want || e != wantError {
		t.Errorf("Equal(%s, %s, %d) = %v, %v, want %v, %v", shown(a), shown(b), w, is, e, want, wantError)
	}
}

func expectCount(t *testing.T, s []api.Cube, w int, want uint64, wantError api.Errno) {
	t.Helper()
	if n, e := cubeset.Count(s, w); n != want || e != wantError {
		t.Errorf("Count(%s, %d) = %d, %v, want %d, %v", shown(s), w, n, e, want, wantError)
	}
}

// P8.1
func TestContainsAndMin(t *testing.T) {
	seed := random(1)
	for range 500 {
		s := seed.list(6, 5)
		// Only the lists without masks above 5 bits are sure to have their smallest number below 32.
		for i := range s {
			s[i].Mask &= 31
		}
		smallest, found := uint64(0), false
		for n := range uint64(32) {
			if got := cubeset.Contains(s, n); got != has(s, n) {
				t.Errorf("Contains(%#x, %d) = %v", s, n, got)
			}
			if has(s, n) && !found {
				smallest, found = n, true
			}
		}
		if n, ok := cubeset.Min(s); n != smallest || ok != found {
			t.Errorf("Min(%#x) = %d, %v, want %d, %v", s, n, ok, smallest, found)
		}
	}
}

// P8.1
func TestContainsAndMinOfWideCubes(t *testing.T) {
	const top = 1 << 63
	s := []api.Cube{{Value: top + 5, Mask: top + 7}, {Value: math.MaxUint64, Mask: top + 6}, {Value: math.MaxUint64, Mask: math.MaxUint64}}
	if n, ok := cubeset.Min(s); n != top+5 || !ok {
		t.Errorf("Min = %#x, %v", n, ok)
	}
	for n, want := range map[uint64]bool{0: false, 5: false, top + 5: true, top + 6: true, top + 7: true, top + 4: false, top + 13: true, math.MaxUint64: true} {
		if got := cubeset.Contains(s, n); got != want {
			t.Errorf("Contains(%#x) = %v", n, got)
		}
	}
	if n, ok := cubeset.Min([]api.Cube{{Value: math.MaxUint64}}); n != 0 || !ok {
		t.Errorf("Min of all numbers = %d, %v", n, ok)
	}
	if n, ok := cubeset.Min(s[2:]); n != math.MaxUint64 || !ok {
		t.Errorf("Min of the greatest number = %d, %v", n, ok)
	}
}

// P8.1 to P8.5
func TestEmptyLists(t *testing.T) {
	all := []api.Cube{{}}
	for _, empty := range [][]api.Cube{nil, {}} {
		if n, ok := cubeset.Min(empty); n != 0 || ok {
			t.Errorf("Min = %d, %v", n, ok)
		}
		if cubeset.Contains(empty, 0) {
			t.Error("Contains(0)")
		}
		expectSimplify(t, empty, nil)
		expectUnion(t, empty, empty, nil, api.OK)
		expectUnion(t, empty, all, all, api.OK)
		expectUnion(t, all, empty, all, api.OK)
		expectIntersect(t, empty, empty, nil, api.OK)
		expectIntersect(t, empty, all, nil, api.OK)
		expectIntersect(t, all, empty, nil, api.OK)
		for _, w := range []int{1, 2, 62, 63, 64} {
			expectSubtract(t, empty, empty, w, nil, api.OK)
			expectSubtract(t, empty, all, w, nil, api.OK)
			expectSubtract(t, all, empty, w, all, api.OK)
			expectComplement(t, empty, w, all, api.OK)
			expectComplement(t, all, w, nil, api.OK)
			expectSubset(t, empty, empty, w, true, api.OK)
			expectSubset(t, empty, all, w, true, api.OK)
			expectSubset(t, all, empty, w, false, api.OK)
			expectEqual(t, empty, empty, w, true, api.OK)
			expectEqual(t, empty, all, w, false, api.OK)
			expectEqual(t, all, empty, w, false, api.OK)
		}
		expectCount(t, empty, 62, 0, api.OK)
	}
}

// P8.1: cubes that are equal, nested, disjoint or overlapping, in both orders.
func TestSimplify(t *testing.T) {
	for _, x := range []struct{ from, to []api.Cube }{
		{cubes("0x1", "0x1"), cubes("0x1")},
		{cubes("0x1", "001"), cubes("0x1")},
		{cubes("001", "0x1"), cubes("0x1")},
		{cubes("0x1", "1x0"), cubes("0x1", "1x0")},
		{cubes("0xx", "xx1"), cubes("0xx", "xx1")},
		{cubes("xx1", "0xx"), cubes("xx1", "0xx")},
		{cubes("000", "0xx", "00x", "1xx", "000", "0xx"), cubes("0xx", "1xx")},
		{cubes("010", "101", "010", "1x1", "xx1", "01x"), cubes("xx1", "01x")},
		{cubes("101", "000", "xxx", "0xx"), cubes("xxx")},
		// No single cube holds the third one, though the first two together do.
		{cubes("0xx", "1xx", "xx1"), cubes("0xx", "1xx", "xx1")},
	} {
		expectSimplify(t, x.from, x.to)
	}
}

// P8.1: of cubes that are equal as sets the first one stays, and comes without the bits outside its mask.
func TestSimplifyOtherwiseWritten(t *testing.T) {
	expectSimplify(t, []api.Cube{{Value: 13, Mask: 9}, {Value: 9, Mask: 9}, {Value: 15, Mask: 9}}, []api.Cube{{Value: 9, Mask: 9}})
	expectSimplify(t, []api.Cube{{Value: math.MaxUint64}, {}}, []api.Cube{{}})
	expectSimplify(t, []api.Cube{{Value: 7, Mask: 3}, {Value: 8, Mask: 4}, {Value: 3, Mask: 3}}, []api.Cube{{Value: 3, Mask: 3}, {Mask: 4}})
	expectSimplify(t, []api.Cube{{Value: 6, Mask: 3}, {Value: 14, Mask: 2}}, []api.Cube{{Value: 2, Mask: 2}})
}

// P8.1, P8.6: pseudo-random lists, by the words of the chapter, and the set stays the same.
func TestSimplifyMixedLists(t *testing.T) {
	seed := random(2)
	for i := range 3000 {
		w := 1 + i%6
		s := seed.list(3+i%20, w)
		l := cubeset.Simplify(s)
		expectList(t, "Simplify", l, api.OK, wantSimplified(s), api.OK)
		expectSimplify(t, l, l)
		for n := range uint64(1) << w {
			if has(l, n) != has(s, n) {
				t.Fatalf("Simplify(%#x) = %#x differs at %d", s, l, n)
			}
		}
	}
}

// P8.1: there is no limit to the list. It has numbers in no order, many of them twice, and larger cubes that hold some of them.
func TestSimplifyLongList(t *testing.T) {
	const n = 1 << 16
	var s, want []api.Cube
	for i := range uint64(n) {
		x := i * 40503 % n
		s = append(s, api.Cube{Value: x, Mask: n - 1})
		if x%8 != 3 {
			want = append(want, s[len(s)-1])
		}
	}
	s = append(s, s...)
	s = append(s, api.Cube{Value: 3, Mask: 7}, api.Cube{Value: 11, Mask: 15})
	expectSimplify(t, s, append(want, api.Cube{Value: 3, Mask: 7}))
}

// P8.2, P8.3, P8.5: pseudo-random lists of narrow and wide cubes, by the words of the chapter.
func TestMixedLists(t *testing.T) {
	seed := random(3)
	for i := range 2000 {
		w := []int{1, 2, 3, 4, 5, 6, 24, 41, 62, 63, 64}[i%11]
		a, b := seed.list(7, w), seed.list(7, w)
		want, wantError := wantUnion(a, b)
		expectUnion(t, a, b, want, wantError)
		want, wantError = wantIntersection(a, b)
		expectIntersect(t, a, b, want, wantError)
		want, wantError = wantDifference(a, b, w)
		expectSubtract(t, a, b, w, want, wantError)
		expectSubset(t, a, b, w, wantError == api.OK && len(want) == 0, wantError)
		want, wantError = wantDifference([]api.Cube{{}}, a, w)
		expectComplement(t, a, w, want, wantError)
		count, wantError := wantCount(a, w)
		expectCount(t, a, w, count, wantError)
	}
}

// P8.6: number by number.
func TestAlgebra(t *testing.T) {
	seed := random(4)
	for i := range 3000 {
		w := 1 + i%6
		a, b := seed.list(6, w), seed.list(6, w)
		both, _ := cubeset.Intersect(a, b)
		either, _ := cubeset.Union(a, b)
		for n := range uint64(1) << w {
			if has(both, n) != (has(a, n) && has(b, n)) || has(either, n) != (has(a, n) || has(b, n)) {
				t.Fatalf("%#x and %#x: Intersect %#x, Union %#x are wrong at %d", a, b, both, either, n)
			}
		}
		// Bits of the masks at the width and above count as 0 in what follows.
		for _, l := range [][]api.Cube{a, b} {
			for k := range l {
				l[k].Mask &= 1<<w - 1
			}
		}
		rest, _ := cubeset.Subtract(a, b, w)
		others, _ := cubeset.Complement(a, w)
		for n := range uint64(1) << w {
			if has(rest, n) != (has(a, n) && !has(b, n)) || has(others, n) == has(a, n) {
				t.Fatalf("%#x and %#x: Subtract %#x, Complement %#x are wrong at %d", a, b, rest, others, n)
			}
		}
	}
}

// P8.4, P8.5: number by number.
func TestSubsetEqualCountByNumbers(t *testing.T) {
	seed := random(5)
	equals, subsets := 0, 0
	for i := range 6000 {
		w := 1 + i%4
		a, b := seed.list(4, w), seed.list(4, w)
		if i%3 == 0 {
			b, _ = cubeset.Subtract(a, b, w)
			b = append(b, a[:len(a)/2]...)
		}
		inB, inA, count := true, true, uint64(0)
		low := uint64(1)<<w - 1
		for n := range low + 1 {
			isInA, isInB := hasLow(a, n, low), hasLow(b, n, low)
			inB = inB && (!isInA || isInB)
			inA = inA && (!isInB || isInA)
			if isInA {
				count++
			}
		}
		expectSubset(t, a, b, w, inB, api.OK)
		expectSubset(t, b, a, w, inA, api.OK)
		expectEqual(t, a, b, w, inA && inB, api.OK)
		expectCount(t, a, w, count, api.OK)
		if inA && inB {
			equals++
		} else if inA || inB {
			subsets++
		}
	}
	if equals < 500 || subsets < 500 {
		t.Errorf("only %d lists are equal and %d are subsets", equals, subsets)
	}
}

// hasLow looks only at the bits of the masks that are in low.
func hasLow(s []api.Cube, n, low uint64) bool {
	for _, c := range s {
		if (c.Value^n)&c.Mask&low == 0 {
			return true
		}
	}
	return false
}

// P8.2: the order of the cubes.
func TestUnionAndIntersectOrder(t *testing.T) {
	expectUnion(t, cubes("001", "1xx", "0x0"), cubes("01x", "000", "0x1"), cubes("1xx", "0x0", "01x", "0x1"), api.OK)
	expectIntersect(t, cubes("1xx", "xx0"), cubes("x1x", "0xx", "111"), cubes("11x", "x10", "0x0"), api.OK)
	expectIntersect(t, cubes("xx0", "1xx"), cubes("x1x", "0xx", "111"), cubes("x10", "0x0", "11x"), api.OK)
	expectIntersect(t, cubes("0xx"), cubes("1xx", "111"), nil, api.OK)
	// The wildcards of one operand and the bits outside a mask.
	expectIntersect(t, []api.Cube{{Value: 15, Mask: 1}}, []api.Cube{{Value: 12, Mask: 2}}, []api.Cube{{Value: 1, Mask: 3}}, api.OK)
	expectUnion(t, []api.Cube{{Value: 15, Mask: 1}}, []api.Cube{{Value: 13, Mask: 3}}, []api.Cube{{Value: 1, Mask: 1}}, api.OK)
	// No width is given, so all 64 bits count.
	expectIntersect(t, []api.Cube{{Mask: 1 << 63}}, []api.Cube{{Value: 1 << 63, Mask: 1 << 63}}, nil, api.OK)
}

// P8.3: the pieces stand in the place of their cube, and each step simplifies.
func TestSubtractOrder(t *testing.T) {
	expectSubtract(t, cubes("xxx"), cubes("11x"), 3, cubes("0xx", "10x"), api.OK)
	expectSubtract(t, cubes("xxx"), cubes("11x", "000"), 3, cubes("01x", "001", "10x"), api.OK)
	expectSubtract(t, cubes("0xx", "x1x"), cubes("0x1"), 3, cubes("0x0", "11x"), api.OK)
	expectSubtract(t, cubes("x1x", "0xx"), cubes("0x1"), 3, cubes("11x", "0x0"), api.OK)
	expectSubtract(t, cubes("0xx", "x1x", "xx1"), cubes("111"), 3, cubes("0xx", "110", "101"), api.OK)
	expectSubtract(t, cubes("0xx", "x1x", "xx1"), cubes("111", "0xx"), 3, cubes("110", "101"), api.OK)
	expectSubtract(t, cubes("010", "0x0", "1x1", "11x", "101"), nil, 3, cubes("0x0", "1x1", "11x"), api.OK)
	expectComplement(t, cubes("11x", "000"), 3, cubes("01x", "001", "10x"), api.OK)
}

// P8.3 to P8.5: bits of the masks at the width and above count as 0, in both operands.
func TestBitsAboveWidth(t *testing.T) {
	a := []api.Cube{{Value: 0x35, Mask: 0x33}, {Value: 0x11, Mask: 0x11}, {Value: 0x42, Mask: 0x42}}
	expectSubtract(t, a, nil, 4, []api.Cube{{Value: 1, Mask: 1}, {Value: 2, Mask: 2}}, api.OK)
	expectSubtract(t, a, []api.Cube{{Value: 0xf2, Mask: 0xf2}}, 4, []api.Cube{{Value: 1, Mask: 3}}, api.OK)
	expectSubtract(t, a, []api.Cube{{Value: 0xf0, Mask: 0xf0}}, 4, nil, api.OK)
	expectComplement(t, []api.Cube{{Value: 0x18, Mask: 0x18}}, 4, []api.Cube{{Mask: 8}}, api.OK)
	expectComplement(t, []api.Cube{{Value: 0x10, Mask: 0x10}}, 4, nil, api.OK)
	expectSubset(t, []api.Cube{{Mask: 0xf0}}, []api.Cube{{Value: 0x70, Mask: 0x70}}, 4, true, api.OK)
	expectSubset(t, []api.Cube{{Mask: 0xf0}}, []api.Cube{{Value: 0x70, Mask: 0x70}}, 5, false, api.OK)
	expectEqual(t, []api.Cube{{Value: 0x11, Mask: 0xf1}}, []api.Cube{{Value: 1, Mask: 1}}, 4, true, api.OK)
	expectEqual(t, []api.Cube{{Value: 0x11, Mask: 0xf1}}, []api.Cube{{Value: 1, Mask: 1}}, 5, false, api.OK)
	expectCount(t, a, 4, 12, api.OK)
	expectCount(t, []api.Cube{{Mask: 1 << 4}, {Value: 1 << 4, Mask: 1 << 4}}, 4, 16, api.OK)
	expectCount(t, []api.Cube{{Value: math.MaxUint64, Mask: math.MaxUint64}, {Mask: 1 << 63}}, 62, 1<<62, api.OK)
}

// P8.4: lists that are written otherwise.
func TestEqualSets(t *testing.T) {
	for _, l := range [][]api.Cube{cubes("xx"), cubes("0x", "1x"), cubes("x0", "x1"), cubes("00", "01", "1x"), cubes("x1", "00", "11", "10", "0x"), {{Value: 5}}, {{Value: 7, Mask: 4}, {Value: 6, Mask: 8}}} {
		expectEqual(t, l, []api.Cube{{}}, 2, true, api.OK)
		expectEqual(t, []api.Cube{{}}, l, 2, true, api.OK)
		expectEqual(t, l, cubes("x1", "10"), 2, false, api.OK)
		expectEqual(t, cubes("x1", "10"), l, 2, false, api.OK)
		expectSubset(t, cubes("x1", "10"), l, 2, true, api.OK)
		expectSubset(t, l, cubes("x1", "10"), 2, false, api.OK)
	}
}

// The chapter's example.
func TestExample(t *testing.T) {
	expectSubtract(t, []api.Cube{{}}, []api.Cube{{Value: 3, Mask: 3}}, 2, []api.Cube{{Value: 0, Mask: 2}, {Value: 2, Mask: 3}}, api.OK)
}
