package placement_test

import (
	"math"
	"testing"

	"patchbay/api"
	"patchbay/placement"
)

func expectChip(t *testing.T, what string, c api.Chip, want api.Errno) {
	t.Helper()
	if e := placement.CheckChip(c); e != want {
		t.Errorf("%s: CheckChip of %+v = %v, want %v", what, c, e, want)
	}
	own := api.OK
	for _, x := range parts(&c) {
		if *x.n < x.least || *x.n > x.most {
			own = api.ErrRange
		}
	}
	if own != want {
		t.Errorf("%s: the tests' own answer: %v, want %v", what, own, want)
	}
}

// P35.1: the limits of each component, on chips whose others are in their middle, least and greatest
func TestCheckChip(t *testing.T) {
	var least, most api.Chip
	for i := range parts(&least) {
		*parts(&least)[i].n, *parts(&most)[i].n = parts(&least)[i].least, parts(&most)[i].most
	}
	middle := api.Chip{Stages: 5, Tables: 4, Gates: 3, SRAM: 200, TCAM: 100, C8: 9, C16: 8, C32: 7}
	for what, c := range map[string]api.Chip{"the least chip": least, "the greatest chip": most, "a chip": middle} {
		expectChip(t, what, c, api.OK)
		for i, x := range parts(&c) {
			with := func(n int) api.Chip {
				c := c
				*parts(&c)[i].n = n
				return c
			}
			for _, n := range []int{x.least, x.least + 1, x.most - 1, x.most} {
				expectChip(t, what+": "+x.name, with(n), api.OK)
			}
			for _, n := range []int{math.MinInt, -1 << 32, -1, x.least - 1, x.most + 1, 2 * x.most, 5000, 1 << 32, 1<<32 + 1, math.MaxInt} {
				expectChip(t, what+": "+x.name, with(n), api.ErrRange)
			}
		}
	}
	expectChip(t, "no chip", api.Chip{}, api.ErrRange)
	for i, x := range parts(&least) { // two components out of range
		for j, y := range parts(&least) {
			c := middle
			*parts(&c)[i].n, *parts(&c)[j].n = x.most+1, y.least-1
			expectChip(t, x.name+" and "+y.name, c, api.ErrRange)
		}
	}
}

// P35.1: random chips
func TestRandomChips(t *testing.T) {
	r := random(351)
	count := map[api.Errno]int{}
	for range 20000 {
		var c api.Chip
		for _, x := range parts(&c) {
			*x.n = x.least + r.below(x.most-x.least+1)
			if r.chance(12) {
				*x.n = pick(&r, []int{x.least - 1, x.most + 1, pick(&r, wrongNumbers)})
			}
		}
		want := api.OK
		for _, x := range parts(&c) {
			if *x.n < x.least || *x.n > x.most {
				want = api.ErrRange
			}
		}
		count[want]++
		expectChip(t, "a random chip", c, want)
	}
	if count[api.OK] < 5000 || count[api.ErrRange] < 5000 {
		t.Errorf("the answers are %v", count)
	}
}
