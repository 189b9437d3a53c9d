package cubeset_test

import (
	"math"
	"slices"
	"testing"

	"patchbay/api"
	"patchbay/cubeset"
)

// pairs answers n cubes, each of which fixes a bit x and a bit y of its own as 1: x in the bits from 0 on and y in those
// from 20 on. Each of them splits every cube that leaves its two bits free.
func pairs(n int) []api.Cube {
	var l []api.Cube
	for i := range n {
		bits := uint64(1)<<i | uint64(1)<<(20+i)
		l = append(l, api.Cube{Value: bits, Mask: bits})
	}
	return l
}

// half answers a cube that is all numbers with bit 40 clear, and noPair one with bit 40 set that meets none of the pairs.
func half() api.Cube { return api.Cube{Mask: 1 << 40} }

func noPair() api.Cube { return api.Cube{Value: 1 << 40, Mask: 1<<40 | 1<<20 - 1} }

// P8.2: the list is held against the limit once it is simplified.
func TestUnionLimit(t *testing.T) {
	const most = api.MaxCubes
	all, more := singles(0, most, 64), singles(0, most+1, 64)
	expectUnion(t, all, nil, all, api.OK)
	expectUnion(t, nil, all, all, api.OK)
	expectUnion(t, all[:most/2], all[most/2:], all, api.OK)
	expectUnion(t, all, all, all, api.OK)
	expectUnion(t, more, nil, nil, api.ErrLimit)
	expectUnion(t, nil, more, nil, api.ErrLimit)
	expectUnion(t, all, more[most:], nil, api.ErrLimit)
	expectUnion(t, all, singles(5, most, 64), nil, api.ErrLimit)
	expectUnion(t, all, []api.Cube{{Value: 1, Mask: 1}}, append(even(all), api.Cube{Value: 1, Mask: 1}), api.OK)
	expectUnion(t, more, []api.Cube{{}}, []api.Cube{{}}, api.OK)
	expectUnion(t, []api.Cube{{Value: 9}}, singles(0, 1<<15, 20), []api.Cube{{}}, api.OK)
}

func even(s []api.Cube) []api.Cube {
	var l []api.Cube
	for _, c := range s {
		if c.Value%2 == 0 {
			l = append(l, c)
		}
	}
	return l
}

// P8.2: the list is held against the limit behind each cube of a.
func TestIntersectLimit(t *testing.T) {
	const most = api.MaxCubes
	all, more, whole := singles(0, most, 64), singles(0, most+1, 64), []api.Cube{{}}
	expectIntersect(t, whole, all, all, api.OK)
	expectIntersect(t, all, whole, all, api.OK)
	expectIntersect(t, all, all, all, api.OK)
	expectIntersect(t, more, singles(1, most, 64), more[1:], api.OK)
	expectIntersect(t, more, all, all, api.OK)
	expectIntersect(t, whole, more, nil, api.ErrLimit)
	expectIntersect(t, more, whole, nil, api.ErrLimit)
	// The last step would make the list one cube.
	expectIntersect(t, slices.Concat(more, whole), whole, nil, api.ErrLimit)
	expectIntersect(t, slices.Concat(all, whole), whole, whole, api.OK)
	expectIntersect(t, slices.Concat(whole, more), whole, whole, api.OK)
	// Here the one cube comes within the step.
	expectIntersect(t, whole, slices.Concat(more, whole), whole, api.OK)
	expectIntersect(t, slices.Concat(more, whole), nil, nil, api.OK)
}

// P8.3: the list of a is the first step.
func TestSubtractFirstStepLimit(t *testing.T) {
	const most = api.MaxCubes
	all, more, whole := singles(0, most, 64), singles(0, most+1, 64), []api.Cube{{}}
	expectSubtract(t, all, nil, 64, all, api.OK)
	expectSubtract(t, all, whole, 64, nil, api.OK)
	expectSubtract(t, more, nil, 64, nil, api.ErrLimit)
	expectSubtract(t, more, whole, 64, nil, api.ErrLimit)
	// Restricted to ten bits the last number is the first one again.
	expectSubtract(t, more, nil, 10, singles(0, most, 10), api.OK)
	expectSubtract(t, more, whole, 10, nil, api.OK)
	expectSubtract(t, slices.Concat(more, whole), whole, 64, nil, api.OK)
	expectSubtract(t, all, singles(3, 1<<13, 64), 64, all[:3], api.OK)
	expectSubtract(t, nil, singles(0, 1<<13, 64), 64, nil, api.OK)
}

// P8.3: each pair splits all cubes of the list, so that the tenth one makes it as long as it may be.
func TestSubtractLimit(t *testing.T) {
	whole, two := []api.Cube{{}}, []api.Cube{half(), noPair()}
	for _, w := range []int{41, 63, 64} {
		for n := range 11 {
			l, e := cubeset.Subtract(whole, pairs(n), w)
			if len(l) != 1<<n || e != api.OK {
				t.Errorf("%d pairs at width %d: %d cubes, %v", n, w, len(l), e)
			}
		}
		l, e := cubeset.Subtract(two, pairs(9), w)
		if len(l) != 513 || e != api.OK || l[512] != noPair() {
			t.Errorf("9 pairs from two cubes at width %d: %d cubes, %v", w, len(l), e)
		}
		expectSubtract(t, whole, pairs(11), w, nil, api.ErrLimit)
		expectSubtract(t, two, pairs(10), w, nil, api.ErrLimit)
		expectComplement(t, pairs(11), w, nil, api.ErrLimit)
		expectComplement(t, pairs(20), w, nil, api.ErrLimit)
	}
}

// P8.3: one step beyond the limit is an error, be there ever so little left in the end.
func TestSubtractLimitOfEachStep(t *testing.T) {
	whole := []api.Cube{{}}
	expectSubtract(t, whole, slices.Concat(pairs(10), whole), 64, nil, api.OK)
	expectSubtract(t, whole, slices.Concat(pairs(11), whole), 64, nil, api.ErrLimit)
	expectSubtract(t, whole, slices.Concat(whole, pairs(11)), 64, nil, api.OK)
	expectSubtract(t, []api.Cube{half(), noPair()}, slices.Concat(pairs(9), whole), 64, nil, api.OK)
	expectSubtract(t, []api.Cube{half(), noPair()}, slices.Concat(pairs(10), whole), 64, nil, api.ErrLimit)
	// A single number leaves as many pieces as it has bits, of each cube that holds it.
	expectComplement(t, slices.Concat(pairs(10), singles(0, 1, 64)), 64, nil, api.ErrLimit)
	expectComplement(t, slices.Concat(pairs(10), singles(0, 1, 64), whole), 64, nil, api.ErrLimit)
	expectComplement(t, slices.Concat(pairs(10), singles(1<<10-1+1<<20, 1, 64), whole), 64, nil, api.OK)
}

// P8.3: a list of several cubes is simplified ahead of the limit. Of the halves of the two ways nearly all fall together.
func TestSubtractSimplifiesAheadOfLimit(t *testing.T) {
	a := []api.Cube{{Mask: 1 << 40}, {Value: 1 << 41, Mask: 1 << 41}}
	want, wantError := wantDifference(a, pairs(9), 64)
	if wantError != api.OK || len(want) != api.MaxCubes {
		t.Fatalf("%d cubes, %v", len(want), wantError)
	}
	expectSubtract(t, a, pairs(9), 64, want, api.OK)
	expectSubtract(t, a, pairs(10), 64, nil, api.ErrLimit)
	b := []api.Cube{{}, {Value: 1<<3 | 1<<42, Mask: 1<<3 | 1<<42}}
	want, wantError = wantDifference(b, pairs(10), 64)
	if wantError != api.OK || len(want) != api.MaxCubes {
		t.Fatalf("%d cubes, %v", len(want), wantError)
	}
	expectSubtract(t, b, pairs(10), 64, want, api.OK)
}

// P8.4: the errors of Subtract, those of the first test first.
func TestSubsetAndEqualLimit(t *testing.T) {
	const most = api.MaxCubes
	whole, all, more := []api.Cube{{}}, singles(0, most, 64), singles(0, most+1, 64)
	expectSubset(t, whole, pairs(10), 64, false, api.OK)
	expectSubset(t, whole, pairs(11), 64, false, api.ErrLimit)
	expectSubset(t, pairs(11), whole, 64, true, api.OK)
	expectSubset(t, all, whole, 64, true, api.OK)
	expectSubset(t, more, whole, 64, false, api.ErrLimit)
	expectEqual(t, all, all, 64, true, api.OK)
	expectEqual(t, more, more, 64, false, api.ErrLimit)
	expectEqual(t, more, more, 10, true, api.OK)
	expectEqual(t, whole, pairs(10), 64, false, api.OK)
	expectEqual(t, whole, pairs(11), 64, false, api.ErrLimit)
	// The first test is without an error, the second one is not.
	expectEqual(t, pairs(11), whole, 64, false, api.ErrLimit)
	expectEqual(t, singles(0, 1, 64), more, 64, false, api.ErrLimit)
	// The first test denies without an error, and the second one has one.
	expectEqual(t, singles(math.MaxUint64, 1, 64), more, 64, false, api.ErrLimit)
}

// P8.3 to P8.5: the width is told ahead of all else.
func TestInvalidWidths(t *testing.T) {
	lists := [][]api.Cube{nil, {{}}, cubes("01", "1x"), singles(0, api.MaxCubes+1, 64), pairs(11)}
	for _, w := range []int{math.MinInt, -64, -1, 0, 65, 66, 128, 1 << 32, 1<<32 + 4, math.MaxInt} {
		for _, a := range lists {
			for _, b := range lists {
				expectSubtract(t, a, b, w, nil, api.ErrWidth)
				expectSubset(t, a, b, w, false, api.ErrWidth)
				expectEqual(t, a, b, w, false, api.ErrWidth)
			}
			expectComplement(t, a, w, nil, api.ErrWidth)
			expectCount(t, a, w, 0, api.ErrWidth)
		}
	}
	for _, w := range []int{63, 64} {
		for _, a := range lists {
			expectCount(t, a, w, 0, api.ErrWidth)
		}
	}
}

// P8.5: counts at all widths, the greatest one among them.
func TestCount(t *testing.T) {
	for w := 1; w <= 62; w++ {
		whole := uint64(1) << w
		top := whole >> 1
		expectCount(t, []api.Cube{{}}, w, whole, api.OK)
		expectCount(t, []api.Cube{{}, {}, {Mask: top}}, w, whole, api.OK)
		expectCount(t, []api.Cube{{Mask: top}, {Value: top, Mask: top}}, w, whole, api.OK)
		expectCount(t, []api.Cube{{Value: top, Mask: top}, {Value: whole - 1, Mask: whole - 1}}, w, top, api.OK)
		expectCount(t, []api.Cube{{Mask: whole - 1}, {Value: whole - 1, Mask: whole - 1}, {Mask: whole - 1}}, w, 2, api.OK)
		expectCount(t, []api.Cube{{Value: whole - 1, Mask: whole - 1}, {}}, w, whole, api.OK)
		expectCount(t, []api.Cube{{Mask: math.MaxUint64}}, w, 1, api.OK)
	}
	// Of the four values of a pair's two bits three are not in it.
	left := uint64(1) << 42
	for range 10 {
		left *= 3
	}
	expectCount(t, pairs(10), 62, 1<<62-left, api.OK)
	expectCount(t, slices.Concat(pairs(10), []api.Cube{{}}), 62, 1<<62, api.OK)
}

// P8.5: the list has no limit of its own, but what is left of each of its cubes has.
func TestCountLimit(t *testing.T) {
	whole := []api.Cube{{}}
	expectCount(t, singles(0, 5000, 62), 62, 5000, api.OK)
	expectCount(t, slices.Concat(singles(0, 1<<10, 62), singles(512, 1<<10, 62)), 62, 1536, api.OK)
	expectCount(t, slices.Concat(pairs(11), whole), 62, 0, api.ErrLimit)
	expectCount(t, slices.Concat(whole, pairs(11), whole), 62, 1<<62, api.OK)
	expectCount(t, slices.Concat(pairs(11), whole, whole), 62, 0, api.ErrLimit)
	expectCount(t, slices.Concat(pairs(10), whole, pairs(11), whole), 62, 1<<62, api.OK)
	// What is left of the last cube is too much between two steps alone.
	expectCount(t, slices.Concat(pairs(11), []api.Cube{half()}), 62, 0, api.ErrLimit)
}

// P8.3, P8.5: many steps on long lists. Every second number below 2048 is taken away from all numbers.
func TestManySteps(t *testing.T) {
	var odd []api.Cube
	for i := range uint64(1 << 10) {
		odd = append(odd, api.Cube{Value: 2*i + 1, Mask: 1<<11 - 1})
	}
	evenNumbers, e := cubeset.Complement(odd, 11)
	if len(evenNumbers) != 1<<10 || e != api.OK {
		t.Errorf("Complement: %d cubes, %v", len(evenNumbers), e)
	}
	expectEqual(t, evenNumbers, []api.Cube{{Mask: 1}}, 11, true, api.OK)
	expectEqual(t, odd, []api.Cube{{Value: 1, Mask: 1}}, 11, true, api.OK)
	expectCount(t, slices.Concat(odd, []api.Cube{{Mask: 2}, {}}), 11, 1<<11, api.OK)
}

// calls makes a call of each function of two lists.
func calls(a, b []api.Cube) [][]api.Cube {
	union, _ := cubeset.Union(a, b)
	common, _ := cubeset.Intersect(a, b)
	rest, _ := cubeset.Subtract(a, b, 4)
	whole, _ := cubeset.Subtract(a, nil, 4)
	others, _ := cubeset.Complement(a, 4)
	cubeset.Subset(a, b, 4)
	cubeset.Equal(a, b, 4)
	cubeset.Count(a, 4)
	cubeset.Contains(a, 3)
	cubeset.Min(a)
	return [][]api.Cube{union, common, rest, whole, others, cubeset.Simplify(a)}
}

// What is handed in is neither changed nor kept, and nothing behind its end is touched.
func TestArgumentsAndResults(t *testing.T) {
	a := []api.Cube{{Value: 15, Mask: 1}, {Value: 7, Mask: 0x13}, {Value: 2, Mask: 2}, {Value: 0xff, Mask: 0x0f}, {Value: 8, Mask: 24}}
	b := []api.Cube{{Value: 12, Mask: 0x44}, {Value: 3, Mask: 3}, {Value: 9, Mask: 9}}
	ownA, ownB := slices.Clone(a), slices.Clone(b)
	want := calls(a, b)
	// Empty lists and lists with cubes behind their end.
	for _, n := range []int{0, 1, len(a)} {
		calls(a[:n], b[:min(n, len(b))])
	}
	if !slices.Equal(a, ownA) || !slices.Equal(b, ownB) {
		t.Fatalf("the arguments are %#x and %#x", a, b)
	}
	for i, l := range want {
		kept := slices.Clone(l)
		for k := range l[:cap(l)] {
			l[:cap(l)][k] = api.Cube{Value: 77, Mask: 77}
		}
		if again := calls(a, b); !slices.Equal(again[i], kept) {
			t.Errorf("call %d: %#x, want %#x", i, again[i], kept)
		}
		copy(l, kept)
	}
	if !slices.Equal(a, ownA) || !slices.Equal(b, ownB) {
		t.Fatal("a result is a piece of an argument")
	}
	for i := range a {
		a[i] = api.Cube{}
	}
	for i, l := range calls(ownA, ownB) {
		if !slices.Equal(l, want[i]) {
			t.Errorf("call %d has kept its argument", i)
		}
	}
}
