package phv_test

import (
	"slices"
	"testing"

	"patchbay/api"
	"patchbay/phv"
)

func expectUsage(t *testing.T, what string, l []api.Slot, c8, c16, c32 int) {
	t.Helper()
	l = spare(l, slot(8, 61, 0, 1), slot(16, 61, 0, 1), slot(32, 61, 0, 1))
	before := text(l)
	for range 2 {
		if a, b, c := phv.Usage(l); a != c8 || b != c16 || c != c32 {
			t.Errorf("%s: Usage of %v = %d, %d, %d, want %d, %d, %d", what, l, a, b, c, c8, c16, c32)
		}
	}
	if text(l) != before {
		t.Errorf("%s: Usage changes the slots", what)
	}
}

// P36.4: the different containers of each size
func TestUsage(t *testing.T) {
	expectUsage(t, "no slots", nil, 0, 0, 0)
	expectUsage(t, "no slots", slots(), 0, 0, 0)
	expectUsage(t, "one slot", slots(slot(16, 5, 0, 3)), 0, 1, 0)
	expectUsage(t, "slots of one container", slots(slot(8, 3, 0, 1), slot(8, 3, 1, 1), slot(8, 3, 0, 8)), 1, 0, 0)
	expectUsage(t, "one index of each size", slots(slot(8, 7, 0, 8), slot(16, 7, 0, 8), slot(32, 7, 0, 8)), 1, 1, 1)
	expectUsage(t, "several containers", slots(slot(8, 0, 0, 8), slot(32, 9, 0, 8), slot(8, 2, 0, 8), slot(32, 0, 3, 9), slot(8, 0, 0, 1), slot(32, 63, 31, 1), slot(8, 63, 7, 1)), 3, 0, 3)
	expectUsage(t, "the tests' roomy slots", roomy(), 3, 2, 2)
	for _, size := range []int{8, 16, 32} {
		var l []api.Slot
		for i := range 64 {
			l = append(l, slot(size, i, i%size, 1), slot(size, 63-i, 0, size))
		}
		n := map[int]int{size: 64}
		expectUsage(t, "all containers", l, n[8], n[16], n[32])
	}
}

// P36.4: slots that are not valid
func TestUsageOfWrongSlots(t *testing.T) {
	expectUsage(t, "slots that are not valid", wrongSlots(), 0, 0, 0)
	for _, s := range wrongSlots() {
		expectUsage(t, "a slot that is not valid", slots(s), 0, 0, 0)
		expectUsage(t, "a slot that is not valid among others", slots(slot(8, 1, 0, 1), s, slot(16, 0, 0, 16), s), 1, 1, 0)
	}
}

// P36.4: random slots, and those of Allocate
func TestRandomUsage(t *testing.T) {
	r := random(364)
	for range 5000 {
		l := randomSlots(&r, r.below(30))
		if r.chance(4) {
			l, _ = phv.Allocate(randomProgram(&r), r.below(25), all())
		}
		n := map[int]map[int]bool{8: {}, 16: {}, 32: {}}
		for _, s := range l {
			if isValid(s) {
				n[s.Size][s.Index] = true
			}
		}
		expectUsage(t, "random slots", l, len(n[8]), len(n[16]), len(n[32]))
	}
	expectUsage(t, "many slots", slices.Repeat(slots(slot(8, 1, 0, 1), slot(8, 0, 0, 0)), 1<<16), 1, 0, 0)
}
