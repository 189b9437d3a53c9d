package resource_test

import (
	"math"
	"math/big"
	"slices"
	"testing"

	"patchbay/api"
	"patchbay/resource"
)

// wantTotal is P34.3 for one kind of blocks, word by word.
func wantTotal(l []int) int {
	sum := new(big.Int)
	for _, n := range l {
		sum.Add(sum, big.NewInt(int64(max(n, 0))))
	}
	if sum.Cmp(big.NewInt(math.MaxInt)) > 0 {
		return math.MaxInt
	}
	return int(sum.Int64())
}

func wantSum(l []api.Resources) api.Resources {
	var s, t []int
	for _, n := range l {
		s, t = append(s, n.SRAM), append(t, n.TCAM)
	}
	return api.Resources{SRAM: wantTotal(s), TCAM: wantTotal(t)}
}

func expectSum(t *testing.T, what string, l []api.Resources, want api.Resources) {
	t.Helper()
	l = spare(l, api.Resources{SRAM: 100, TCAM: 100})
	before := text(l[:cap(l)])
	if n := resource.Sum(l); n != want {
		t.Errorf("%s: Sum of %+v = %+v, want %+v", what, l, n, want)
	}
	if text(l[:cap(l)]) != before {
		t.Errorf("%s: the list is changed", what)
	}
	if own := wantSum(l); own != want {
		t.Errorf("%s: the tests' own answer: %+v, want %+v", what, own, want)
	}
}

// numbers answers resources whose two kinds go opposite ways.
func numbers(l ...int) []api.Resources {
	var all []api.Resources
	for i, n := range l {
		all = append(all, api.Resources{SRAM: n, TCAM: l[len(l)-1-i]})
	}
	return all
}

// P34.3: sums, negative numbers, and sums that are too great
func TestSum(t *testing.T) {
	const most, least = math.MaxInt, math.MinInt
	for _, x := range []struct {
		what string
		l    []int
		want int
	}{
		{"nothing", nil, 0},
		{"one number", []int{7}, 7},
		{"zeros", []int{0, 0, 0}, 0},
		{"numbers", []int{1, 20, 300, 4000}, 4321},
		{"a negative number", []int{-7}, 0},
		{"negative numbers among others", []int{5, -3, 2, -9, 1}, 8},
		{"the smallest number", []int{least, 4, least}, 4},
		{"the greatest number", []int{most}, most},
		{"the greatest number and 0", []int{most, 0, -1, least}, most},
		{"just the greatest number", []int{most - 5, 2, 3}, most},
		{"one less", []int{most - 5, 2, 2}, most - 1},
		{"one more", []int{most - 5, 2, 4}, most},
		{"the greatest number twice", []int{most, most}, most},
		{"the greatest number thrice", []int{most, most, most}, most},
		{"the greatest number and negative ones", []int{most, -5, 3, -2}, most},
		{"halves of the greatest number", []int{1 << 62, 1 << 62}, most},
		{"halves of the greatest number and one less", []int{1 << 62, 1<<62 - 2}, most - 1},
		{"great numbers and negative ones", []int{1 << 62, least, 1<<62 - 3, least, 1}, most - 1},
	} {
		expectSum(t, x.what, numbers(x.l...), api.Resources{SRAM: x.want, TCAM: x.want})
	}
	expectSum(t, "an empty list", []api.Resources{}, api.Resources{})
	expectSum(t, "SRAM alone", []api.Resources{{SRAM: 3}, {SRAM: most}, {TCAM: -1}}, api.Resources{SRAM: most})
	expectSum(t, "TCAM alone", []api.Resources{{SRAM: -3}, {TCAM: 4}, {TCAM: 5}}, api.Resources{TCAM: 9})
	expectSum(t, "both", []api.Resources{{SRAM: 1, TCAM: 2}, {SRAM: 30, TCAM: 40}, {SRAM: -5, TCAM: 600}}, api.Resources{SRAM: 31, TCAM: 642})
}

func randomNumber(r *random) int {
	return pick(r, []int{r.below(100), r.below(100), -r.below(100), math.MaxInt - r.below(100), math.MaxInt/2 + r.below(3) - 1, math.MinInt + r.below(3), int(r.bits())<<31 + int(r.bits())})
}

// P34.3, P34.5: random lists, in any order and split anywhere
func TestRandomSums(t *testing.T) {
	r := random(343)
	great := map[bool]int{}
	for range 10000 {
		var l []api.Resources
		for range r.below(6) {
			l = append(l, api.Resources{SRAM: randomNumber(&r), TCAM: randomNumber(&r)})
		}
		want := wantSum(l)
		great[want.SRAM == math.MaxInt]++
		expectSum(t, "a random list", l, want)
		at := r.below(len(l) + 1)
		if n := resource.Sum([]api.Resources{resource.Sum(l[:at]), resource.Sum(l[at:])}); n != want {
			t.Errorf("the sums of %+v and %+v are %+v together, that of all is %+v", l[:at], l[at:], n, want)
		}
		mixed := slices.Clone(l)
		for i := range mixed {
			j := r.below(i + 1)
			mixed[i], mixed[j] = mixed[j], mixed[i]
		}
		expectSum(t, "a random list in another order", mixed, want)
		if t.Failed() {
			return
		}
	}
	if great[true] < 1000 || great[false] < 1000 {
		t.Errorf("the sums that are the greatest number: %v", great)
	}
}

// P34.3: a long list
func TestLongSum(t *testing.T) {
	const n = 1000000
	l := slices.Repeat([]api.Resources{{SRAM: 3, TCAM: -1}, {SRAM: -3, TCAM: math.MaxInt / n}}, n)
	if s := resource.Sum(l); s != (api.Resources{SRAM: 3 * n, TCAM: math.MaxInt / n * n}) {
		t.Errorf("the sum is %+v", s)
	}
	if s := resource.Sum(append(l, l...)); s != (api.Resources{SRAM: 6 * n, TCAM: math.MaxInt}) {
		t.Errorf("the sum of the list and itself is %+v", s)
	}
}

// P34.4: at most as much of each
func TestFits(t *testing.T) {
	values := []int{math.MinInt, -1 << 32, -1, 0, 1, 2, 7, 1 << 32, 1<<32 + 1, math.MaxInt - 1, math.MaxInt}
	for _, s := range values {
		for _, m := range values {
			for _, need := range values {
				for _, has := range values {
					n := api.Resources{SRAM: s, TCAM: need}
					want := s <= m && need <= has
					if got := resource.Fits(n, api.Chip{SRAM: m, TCAM: has}); got != want {
						t.Errorf("%+v into %d and %d: %v, want %v", n, m, has, got, want)
					}
				}
			}
		}
	}
	for _, n := range values { // nothing else of a chip counts
		c := api.Chip{Stages: n, Tables: n, Gates: n, C8: n, C16: n, C32: n, SRAM: 3, TCAM: 4}
		if !resource.Fits(api.Resources{SRAM: 3, TCAM: 4}, c) || resource.Fits(api.Resources{SRAM: 4, TCAM: 4}, c) || resource.Fits(api.Resources{SRAM: 3, TCAM: 5}, c) {
			t.Errorf("Fits on the chip %+v", c)
		}
	}
}
