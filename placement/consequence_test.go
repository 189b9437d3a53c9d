package placement_test

import (
	"slices"
	"testing"

	"patchbay/api"
	"patchbay/deps"
	"patchbay/placement"
	"patchbay/units"
)

// assignments calls f with each list of n stages below the given number, in lexicographic order, until f answers false.
func assignments(n, stages int, f func(stage []int) bool) {
	stage := make([]int, n)
	for f(slices.Clone(stage)) {
		i := n - 1
		for i >= 0 && stage[i] == stages-1 {
			stage[i] = 0
			i--
		}
		if i < 0 {
			return
		}
		stage[i]++
	}
}

// smallest answers the first valid assignment, and false if there is none.
func smallest(p api.Program, c api.Chip) ([]int, bool) {
	var found []int
	any := false
	assignments(len(units.Build(p)), c.Stages, func(stage []int) bool {
		if wantValid(p, c, stage) {
			found, any = stage, true
		}
		return !any
	})
	return found, any
}

// expectDiagnosis expects P35.9 of a result.
func expectDiagnosis(t *testing.T, p api.Program, c api.Chip, x api.Placement) {
	t.Helper()
	l := units.Build(p)
	switch x.Reason {
	case api.ErrMemory:
		alone := api.Chip{Stages: 1, Tables: c.Tables, Gates: c.Gates, SRAM: c.SRAM, TCAM: c.TCAM}
		if len(x.Units) != 1 || isWithin(p, l[x.Units[0]:], alone, []int{0}, 0) {
			t.Errorf("the units %v have room on %+v", x.Units, c)
		}
	case api.ErrStages:
		d := deps.Build(p, l)
		assignments(len(l), c.Stages, func(stage []int) bool {
			if deps.Satisfied(d, stage) {
				t.Errorf("the stages %v of %d satisfy the dependencies", stage, c.Stages)
			}
			return !t.Failed()
		})
		if len(x.Units) <= c.Stages {
			t.Errorf("the units %v have room in %d stages", x.Units, c.Stages)
		}
	}
}

// P35.6, P35.7, P35.9: all assignments of small programs
func TestAllAssignments(t *testing.T) {
	r := random(356)
	count := map[int]int{}
	for range 1500 {
		p, c := randomProgram(&r, 4), randomChip(&r)
		c.Stages = min(c.Stages, 3)
		x := placement.Place(p, c, 1<<20)
		count[x.Status]++
		want, any := smallest(p, c)
		switch {
		case x.Status == api.Undecided, any != (x.Status == api.Placed):
			t.Errorf("Place answers %+v; a valid assignment: %v", x, any)
		case any && !slices.Equal(x.Stage, want):
			t.Errorf("Place answers %+v; the smallest valid assignment is %v", x, want)
		case any && !placement.Valid(p, c, x.Stage):
			t.Errorf("Place answers %+v, which Valid denies", x)
		}
		expectDiagnosis(t, p, c, x)
		if t.Failed() {
			t.Logf("the program is %+v, the chip %+v", p, c)
			return
		}
	}
	if count[api.Placed] < 400 || count[api.Infeasible] < 400 {
		t.Errorf("the answers are %v", count)
	}
}

// P35.8: greater budgets and greater chips
func TestGreater(t *testing.T) {
	r := random(358)
	greater := map[int]int{}
	for range 3000 {
		p, c := randomProgram(&r, mostUnits), randomChip(&r)
		budget := r.below(60)
		x := placement.Place(p, c, budget)
		for range 4 {
			budget += 1 + r.below(100)
			y := placement.Place(p, c, budget)
			if x.Status != api.Undecided && !samePlacement(x, y) || x.Status == api.Undecided && y.Steps <= x.Steps {
				t.Errorf("Place answers %+v, and with a greater budget %+v", x, y)
			}
			x = y
		}
		big := c
		for _, part := range parts(&big) {
			*part.n = min(part.most, *part.n+r.below(3))
		}
		y := placement.Place(p, big, 20000)
		if x.Status == api.Placed {
			greater[y.Status]++
			if y.Status == api.Infeasible {
				t.Errorf("Place answers %+v, and on a greater chip %+v", x, y)
			}
		}
		if t.Failed() {
			t.Logf("the program is %+v, the chips %+v and %+v", p, c, big)
			return
		}
	}
	if greater[api.Placed] < 500 {
		t.Errorf("the answers for greater chips are %v", greater)
	}
}
