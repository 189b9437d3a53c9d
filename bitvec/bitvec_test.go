package bitvec_test

import (
	"math"
	"testing"

	"patchbay/bitvec"
)

var invalidWidths = []int{math.MinInt, -33, -32, -1, 0, 33, 34, 64, 1 << 32, 1<<32 + 8, math.MaxInt}

var shifts = []int{math.MinInt, -64, -32, -1, 0, 1, 2, 3, 7, 8, 15, 16, 17, 30, 31, 32, 33, 63, 64, 65, 1 << 32, math.MaxInt}

// values holds the numbers round each power of two and some with mixed bits.
func values() []uint32 {
	l := []uint32{0xabcd, 0x12345678, 0xdeadbeef, 0xaaaaaaaa, 0x55555555, 0xf00f}
	for i := range 32 {
		p := uint32(1) << i
		l = append(l, p-1, p, p+1, -p)
	}
	return l
}

func pow(n int) uint64 { return uint64(1) << n }

// P1.1
func TestMaskAndFits(t *testing.T) {
	for w := 1; w <= 32; w++ {
		if got := uint64(bitvec.Mask(w)); got != pow(w)-1 {
			t.Errorf("Mask(%d) = %d", w, got)
		}
		for _, v := range values() {
			if got := bitvec.Fits(v, w); got != (uint64(v) < pow(w)) {
				t.Errorf("Fits(%d, %d) = %v", v, w, got)
			}
		}
	}
}

// P1.1: the width is checked, also where the value is 0.
func TestMaskAndFitsInvalidWidth(t *testing.T) {
	for _, w := range invalidWidths {
		if got := bitvec.Mask(w); got != 0 {
			t.Errorf("Mask(%d) = %d", w, got)
		}
		for _, v := range values() {
			if bitvec.Fits(v, w) {
				t.Errorf("Fits(%d, %d)", v, w)
			}
		}
	}
}

// P1.2
func TestAddSubNot(t *testing.T) {
	for w := 1; w <= 32; w++ {
		for _, a := range values() {
			for _, b := range values() {
				if got, want := uint64(bitvec.Add(a, b, w)), (uint64(a)+uint64(b))%pow(w); got != want {
					t.Fatalf("Add(%d, %d, %d) = %d, want %d", a, b, w, got, want)
				}
				if got, want := uint64(bitvec.Sub(a, b, w)), (pow(32)+uint64(a)-uint64(b))%pow(w); got != want {
					t.Fatalf("Sub(%d, %d, %d) = %d, want %d", a, b, w, got, want)
				}
			}
			if got, want := uint64(bitvec.Not(a, w)), pow(w)-1-uint64(a)%pow(w); got != want {
				t.Fatalf("Not(%d, %d) = %d, want %d", a, w, got, want)
			}
		}
	}
}

// P1.2
func TestAddSubNotInvalidWidth(t *testing.T) {
	for _, w := range invalidWidths {
		for _, a := range values() {
			if x, y, z := bitvec.Add(a, 3, w), bitvec.Sub(a, 3, w), bitvec.Not(a, w); x|y|z != 0 {
				t.Errorf("width %d, a = %d: Add %d, Sub %d, Not %d", w, a, x, y, z)
			}
		}
	}
}

func shlWant(a uint32, n, w int) uint64 {
	if n >= w {
		return 0
	}
	return uint64(a) % pow(w) * pow(max(n, 0)) % pow(w)
}

func shrWant(a uint32, n, w int) uint64 {
	if n >= w {
		return 0
	}
	return uint64(a) % pow(w) / pow(max(n, 0))
}

// P1.3
func TestShlShr(t *testing.T) {
	for w := 1; w <= 32; w++ {
		for _, n := range append([]int{w - 1, w, w + 1}, shifts...) {
			for _, a := range values() {
				if got, want := uint64(bitvec.Shl(a, n, w)), shlWant(a, n, w); got != want {
					t.Fatalf("Shl(%d, %d, %d) = %d, want %d", a, n, w, got, want)
				}
				if got, want := uint64(bitvec.Shr(a, n, w)), shrWant(a, n, w); got != want {
					t.Fatalf("Shr(%d, %d, %d) = %d, want %d", a, n, w, got, want)
				}
			}
		}
	}
}

// P1.3
func TestShlShrInvalidWidth(t *testing.T) {
	for _, w := range invalidWidths {
		for _, n := range shifts {
			for _, a := range values() {
				if x, y := bitvec.Shl(a, n, w), bitvec.Shr(a, n, w); x|y != 0 {
					t.Errorf("width %d, a = %d, n = %d: Shl %d, Shr %d", w, a, n, x, y)
				}
			}
		}
	}
}

// P1.4
func TestSlice(t *testing.T) {
	for w := 1; w <= 32; w++ {
		for _, lo := range append([]int{31 - w, 32 - w, 33 - w}, shifts...) {
			for _, a := range values() {
				want := uint64(0)
				if lo >= 0 && lo <= 32-w {
					want = uint64(a) / pow(lo) % pow(w)
				}
				if got := uint64(bitvec.Slice(a, lo, w)); got != want {
					t.Fatalf("Slice(%d, %d, %d) = %d, want %d", a, lo, w, got, want)
				}
			}
		}
	}
}

// P1.4
func TestSliceInvalidWidth(t *testing.T) {
	for _, w := range invalidWidths {
		for _, lo := range shifts {
			if got := bitvec.Slice(math.MaxUint32, lo, w); got != 0 {
				t.Errorf("Slice(2^32-1, %d, %d) = %d", lo, w, got)
			}
		}
	}
}

// P1.4: every pair of widths, those that are too wide together among them.
func TestConcat(t *testing.T) {
	few := []uint32{0, 1, 2, 0xabcd, 0x12345678, 0x80000000, 0xaaaaaaaa, math.MaxUint32}
	for wa := 1; wa <= 32; wa++ {
		for wb := 1; wb <= 32; wb++ {
			for _, a := range few {
				for _, b := range few {
					want := uint64(0)
					if wa+wb <= 32 {
						want = uint64(a)%pow(wa)*pow(wb) + uint64(b)%pow(wb)
					}
					got, ok := bitvec.Concat(a, wa, b, wb)
					if uint64(got) != want || ok != (wa+wb <= 32) {
						t.Fatalf("Concat(%d, %d, %d, %d) = %d, %v, want %d", a, wa, b, wb, got, ok, want)
					}
				}
			}
		}
	}
}

// P1.4
func TestConcatInvalidWidth(t *testing.T) {
	for _, bad := range invalidWidths {
		for _, w := range append([]int{1, 8, 31, 32}, invalidWidths...) {
			if got, ok := bitvec.Concat(255, bad, 255, w); got != 0 || ok {
				t.Errorf("Concat(255, %d, 255, %d) = %d, %v", bad, w, got, ok)
			}
			if got, ok := bitvec.Concat(255, w, 255, bad); got != 0 || ok {
				t.Errorf("Concat(255, %d, 255, %d) = %d, %v", w, bad, got, ok)
			}
		}
	}
}

// P1.5
func TestOnesCount(t *testing.T) {
	for _, a := range values() {
		want := 0
		for rest := a; rest > 0; rest /= 2 {
			want += int(rest % 2)
		}
		if got := bitvec.OnesCount(a); got != want {
			t.Errorf("OnesCount(%#x) = %d, want %d", a, got, want)
		}
	}
	if got := bitvec.OnesCount(math.MaxUint32); got != 32 {
		t.Errorf("OnesCount(2^32-1) = %d", got)
	}
}

// P1.5
func TestPrefixMask(t *testing.T) {
	for w := 1; w <= 32; w++ {
		for _, n := range append([]int{w - 1, w, w + 1}, shifts...) {
			ones := min(max(n, 0), w)
			want := (pow(ones) - 1) * pow(w-ones)
			if got := uint64(bitvec.PrefixMask(n, w)); got != want {
				t.Errorf("PrefixMask(%d, %d) = %#x, want %#x", n, w, got, want)
			}
		}
	}
	for _, w := range invalidWidths {
		for _, n := range shifts {
			if got := bitvec.PrefixMask(n, w); got != 0 {
				t.Errorf("PrefixMask(%d, %d) = %#x", n, w, got)
			}
		}
	}
}

func prefixLenWant(m uint32, w int) (int, bool) {
	for n := range w + 1 {
		if uint64(m) == (pow(n)-1)*pow(w-n) {
			return n, true
		}
	}
	return 0, false
}

func checkPrefixLen(t *testing.T, m uint32, w int) {
	t.Helper()
	wantN, wantOK := prefixLenWant(m, w)
	if n, ok := bitvec.PrefixLen(m, w); n != wantN || ok != wantOK {
		t.Errorf("PrefixLen(%#x, %d) = %d, %v, want %d, %v", m, w, n, ok, wantN, wantOK)
	}
}

// P1.5: all small masks, those with ones above the width among them.
func TestPrefixLen(t *testing.T) {
	for w := 1; w <= 8; w++ {
		for m := range uint32(1024) {
			checkPrefixLen(t, m, w)
		}
	}
	for w := 1; w <= 32; w++ {
		for _, m := range values() {
			checkPrefixLen(t, m, w)
			checkPrefixLen(t, ^m, w)
		}
	}
}

// P1.5
func TestPrefixLenInvalidWidth(t *testing.T) {
	for _, w := range invalidWidths {
		for _, m := range values() {
			if n, ok := bitvec.PrefixLen(m, w); n != 0 || ok {
				t.Errorf("PrefixLen(%#x, %d) = %d, %v", m, w, n, ok)
			}
		}
	}
}

// P1.6
func TestInverses(t *testing.T) {
	for w := 1; w <= 32; w++ {
		for _, a := range values() {
			for _, b := range values() {
				if got := bitvec.Sub(bitvec.Add(a, b, w), b, w); got != a&bitvec.Mask(w) {
					t.Fatalf("width %d: %d + %d - %d = %d", w, a, b, b, got)
				}
			}
			if got := bitvec.Not(bitvec.Not(a, w), w); got != a&bitvec.Mask(w) {
				t.Fatalf("width %d: Not of Not of %d = %d", w, a, got)
			}
		}
	}
}

// P1.6
func TestSliceRecoversOperands(t *testing.T) {
	for wa := 1; wa <= 31; wa++ {
		for wb := 1; wb <= 32-wa; wb++ {
			for _, a := range values() {
				b := a*2654435761 + 1
				c, ok := bitvec.Concat(a, wa, b, wb)
				left, right := bitvec.Slice(c, wb, wa), bitvec.Slice(c, 0, wb)
				if !ok || left != a&bitvec.Mask(wa) || right != b&bitvec.Mask(wb) {
					t.Fatalf("Concat(%d, %d, %d, %d): %v, slices %d and %d", a, wa, b, wb, ok, left, right)
				}
			}
		}
	}
}

// P1.7
func TestAdjacentSlices(t *testing.T) {
	for _, a := range []uint32{0x12345678, 0xdeadbeef, 0x80000001, 0xaaaaaaaa} {
		for lo := range 31 {
			for wb := 1; lo+wb < 32; wb++ {
				for wa := 1; lo+wb+wa <= 32; wa++ {
					got, ok := bitvec.Concat(bitvec.Slice(a, lo+wb, wa), wa, bitvec.Slice(a, lo, wb), wb)
					if want := bitvec.Slice(a, lo, wa+wb); got != want || !ok {
						t.Fatalf("slices of %#x at %d, widths %d and %d: %#x, want %#x", a, lo, wa, wb, got, want)
					}
				}
			}
		}
	}
}

// P1.8
func TestPrefixes(t *testing.T) {
	for w := 1; w <= 32; w++ {
		shorter := uint32(0)
		for n := range w + 1 {
			m := bitvec.PrefixMask(n, w)
			if got, ok := bitvec.PrefixLen(m, w); got != n || !ok {
				t.Errorf("PrefixLen(PrefixMask(%d, %d)) = %d, %v", n, w, got, ok)
			}
			if got := bitvec.OnesCount(m); got != n {
				t.Errorf("PrefixMask(%d, %d) has %d ones", n, w, got)
			}
			if m&shorter != shorter {
				t.Errorf("PrefixMask(%d, %d) = %#x lacks bits of %#x", n, w, m, shorter)
			}
			shorter = m
		}
	}
}

// The chapter's examples.
func TestExamples(t *testing.T) {
	c, ok := bitvec.Concat(5, 4, 9, 8)
	for i, x := range []struct{ got, want uint32 }{
		{bitvec.Mask(5), 31}, {bitvec.Mask(33), 0}, {bitvec.Add(30, 3, 5), 1}, {bitvec.Sub(0, 1, 4), 15}, {bitvec.Not(5, 4), 10},
		{bitvec.Shl(3, 1, 2), 2}, {bitvec.Shr(12, 2, 4), 3}, {bitvec.Slice(0xabcd, 4, 8), 0xbc}, {c, 0x509}, {bitvec.PrefixMask(3, 8), 0xe0},
	} {
		if x.got != x.want {
			t.Errorf("example %d: %#x, want %#x", i, x.got, x.want)
		}
	}
	if !ok {
		t.Error("Concat(5, 4, 9, 8) returns false")
	}
	for _, x := range []struct {
		m  uint32
		n  int
		ok bool
	}{{0xe0, 3, true}, {0, 0, true}, {5, 0, false}} {
		if n, ok := bitvec.PrefixLen(x.m, 8); n != x.n || ok != x.ok {
			t.Errorf("PrefixLen(%#x, 8) = %d, %v", x.m, n, ok)
		}
	}
}
