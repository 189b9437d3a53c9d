package placement_test

import (
	"math"
	"slices"
	"testing"

	"patchbay/api"
	"patchbay/deps"
	"patchbay/placement"
	"patchbay/program"
	"patchbay/units"
)

// wantValid is P35.4 with the chapter's definition of a valid assignment, word by word.
func wantValid(p api.Program, c api.Chip, stage []int) bool {
	if program.Check(p).Code != api.OK || placement.CheckChip(c) != api.OK {
		return false
	}
	l := units.Build(p)
	if len(stage) != len(l) {
		return false
	}
	for _, s := range stage {
		if s < 0 || s > c.Stages-1 {
			return false
		}
	}
	if !deps.Satisfied(deps.Build(p, l), stage) {
		return false
	}
	for s := range c.Stages {
		if !isWithin(p, l, c, stage, s) {
			return false
		}
	}
	return true
}

func expectValid(t *testing.T, what string, p api.Program, c api.Chip, stage []int, want bool) {
	t.Helper()
	stage = spare(stage, 0, 1, 2)
	before := text(p, stage)
	for range 2 {
		if got := placement.Valid(p, c, stage); got != want {
			t.Errorf("%s: Valid of %v on %+v = %v, want %v", what, stage, c, got, want)
		}
	}
	if text(p, stage) != before {
		t.Errorf("%s: Valid changes its arguments", what)
	}
	if own := wantValid(p, c, stage); own != want {
		t.Errorf("%s: the tests' own answer to %v on %+v: %v, want %v", what, stage, c, own, want)
	}
}

// taken is what Usage answers.
type taken struct {
	tables, gates int
	memory        api.Resources
}

func take(tables, gates, sram, tcam int) taken {
	return taken{tables, gates, api.Resources{SRAM: sram, TCAM: tcam}}
}

func expectUsage(t *testing.T, what string, p api.Program, stage []int, s int, want taken) {
	t.Helper()
	stage = spare(stage, s, s, s)
	before := text(p, stage)
	for range 2 {
		tables, gates, n := placement.Usage(p, stage, s)
		if got := (taken{tables, gates, n}); got != want {
			t.Errorf("%s: Usage of %v at %d = %+v, want %+v", what, stage, s, got, want)
		}
	}
	if text(p, stage) != before {
		t.Errorf("%s: Usage changes its arguments", what)
	}
}

// P35.4: the chapter's example, and each of the conditions
func TestValid(t *testing.T) {
	for _, x := range []struct {
		stage []int
		want  bool
	}{
		{[]int{0, 1}, true}, {[]int{0, 2}, true}, {[]int{1, 2}, true},
		{[]int{0, 0}, false}, {[]int{1, 0}, false}, {[]int{2, 2}, false},
		{nil, false}, {[]int{}, false}, {[]int{0}, false}, {[]int{0, 1, 2}, false}, {[]int{0, 1, 0}, false},
		{[]int{0, 3}, false}, {[]int{-1, 0}, false}, {[]int{-1, 3}, false}, {[]int{-2, -1}, false},
		{[]int{3, 4}, false}, {[]int{0, 15}, false}, {[]int{0, 16}, false}, {[]int{16, 17}, false},
		{[]int{math.MinInt, 0}, false}, {[]int{0, math.MaxInt}, false}, {[]int{math.MinInt, math.MaxInt}, false},
		{[]int{0, 1<<32 + 1}, false}, {[]int{-1 << 32, 1}, false},
	} {
		expectValid(t, "two tables", row(2), stages(3), x.stage, x.want)
	}
	for _, c := range []api.Chip{wide(), {Stages: 1}} {
		expectValid(t, "no units", sample(), c, nil, true)
		expectValid(t, "no units", sample(), c, []int{}, true)
		expectValid(t, "no units and a stage", sample(), c, []int{0}, false)
	}
	for n := 1; n <= api.MaxStages; n++ {
		expectValid(t, "the last stage", apart(1), stages(n), []int{n - 1}, true)
		expectValid(t, "behind the last stage", apart(1), stages(n), []int{n}, false)
	}
	beside := run(with(with(sample(), need{sram: 1}, fields(3), nil), need{sram: 1}, fields(0), fields(3)), apply(0, 1))
	expectValid(t, "beside a unit that reads what it writes", beside, wide(), []int{2, 2}, true)
	expectValid(t, "behind a unit that reads what it writes", beside, wide(), []int{2, 3}, true)
	expectValid(t, "ahead of a unit that reads what it writes", beside, wide(), []int{2, 1}, false)
}

// P35.4: programs and chips that are not valid
func TestInvalid(t *testing.T) {
	c := wide()
	for i, x := range parts(&c) {
		for _, n := range []int{x.least - 1, x.most + 1, math.MinInt, math.MaxInt} {
			c := wide()
			*parts(&c)[i].n = n
			expectValid(t, x.name, row(2), c, []int{0, 1}, false)
			expectValid(t, x.name+", no units", sample(), c, nil, false)
		}
	}
	for what, damage := range map[string]func(p *api.Program){
		"the name":     func(p *api.Program) { p.Name = "" },
		"a table":      func(p *api.Program) { p.Tables[1].Size = 257 },
		"a node":       func(p *api.Program) { p.Control[1].Kind = 4 },
		"the states":   func(p *api.Program) { p.States = nil },
		"the deparser": func(p *api.Program) { p.Deparser = []int{0} },
	} {
		p := row(2)
		damage(&p)
		for _, stage := range [][]int{{0, 1}, {0, 0}, nil} {
			expectValid(t, what, p, wide(), stage, false)
			for s := -1; s < 3; s++ {
				expectUsage(t, what, p, stage, s, taken{})
			}
		}
	}
	expectValid(t, "no program", api.Program{}, wide(), nil, false)
	expectUsage(t, "no program", api.Program{}, nil, 0, taken{})
}

// P35.4: as much of everything as a stage has, and one less; in the first, a middle and the last stage
func TestValidUsage(t *testing.T) {
	p := sample()
	for range 3 {
		p = with(p, need{3, 1}, fields(0), nil)
	}
	p = run(p, apply(0, 1, 2), gates(2).Control)
	for _, s := range []int{0, 3, 7, 15} {
		other := (s + 1) % 16
		for _, x := range []struct {
			stage []int
			c     api.Chip // just enough for the units in stage s
		}{
			{[]int{s, s, s, s, s}, api.Chip{Tables: 3, Gates: 2, SRAM: 9, TCAM: 3}},
			{[]int{s, other, s, s, other}, api.Chip{Tables: 2, Gates: 1, SRAM: 6, TCAM: 2}},
			{[]int{other, s, s, s, s}, api.Chip{Tables: 2, Gates: 2, SRAM: 6, TCAM: 2}},
		} {
			x.c.Stages = 16
			expectValid(t, "just enough", p, x.c, x.stage, true)
			for i, part := range parts(&x.c)[1:5] {
				c := x.c
				*parts(&c)[1+i].n--
				expectValid(t, "too little: "+part.name, p, c, x.stage, false)
			}
		}
	}
}

// P35.5: the units of a stage
func TestUsage(t *testing.T) {
	p := mixed() // a table of 3 blocks, a gate, a table of 1 and 2, and one of 5 and 1
	for _, x := range []struct {
		stage []int
		s     int
		want  taken
	}{
		{[]int{0, 0, 0, 0}, 0, take(3, 1, 9, 3)},
		{[]int{0, 0, 0, 0}, 1, taken{}},
		{[]int{0, 0, 0, 0}, -1, taken{}},
		{[]int{0, 1, 2, 3}, 0, take(1, 0, 3, 0)},
		{[]int{0, 1, 2, 3}, 1, take(0, 1, 0, 0)},
		{[]int{0, 1, 2, 3}, 2, take(1, 0, 1, 2)},
		{[]int{0, 1, 2, 3}, 3, take(1, 0, 5, 1)},
		{[]int{0, 1, 2, 3}, 4, taken{}},
		{[]int{5, 5, 1, 5}, 5, take(2, 1, 8, 1)},
		{[]int{1, 0, 1, 0}, 1, take(2, 0, 4, 2)},
		{[]int{1, 0, 1, 0}, 0, take(1, 1, 5, 1)},
		{[]int{0, 0, 0}, 0, taken{}},
		{[]int{0, 0, 0, 0, 0}, 0, taken{}},
		{[]int{0, 0, 0, 0, 9}, 0, taken{}},
		{nil, 0, taken{}},
		{[]int{}, 0, taken{}},
	} {
		expectUsage(t, "four units", p, x.stage, x.s, x.want)
	}
	for _, n := range append(slices.Clone(wrongNumbers), 15, 16, 63) { // no chip tells which stages there are
		expectUsage(t, "a stage of no chip", p, []int{n, 0, 1, n}, n, take(2, 0, 8, 1))
		expectUsage(t, "no unit in such a stage", p, []int{0, 0, 1, 2}, n, taken{})
		expectUsage(t, "a unit in such a stage", p, []int{0, 0, n, 2}, 0, take(1, 1, 3, 0))
	}
	for s := range 3 {
		expectUsage(t, "no units", sample(), nil, s, taken{})
		expectUsage(t, "no units", sample(), []int{s}, s, taken{})
	}
	free := run(with(sample(), need{}, nil, nil), apply(0))
	expectUsage(t, "a table that costs nothing", free, []int{2}, 2, take(1, 0, 0, 0))
}

// randomStages answers stages for n units, or for about so many.
func randomStages(r *random, n, stages int) []int {
	if r.chance(10) {
		n = max(0, n+r.below(3)-1)
	}
	l := make([]int, n)
	for i := range l {
		l[i] = r.below(stages)
		if r.chance(40) {
			l[i] = pick(r, []int{-1, stages, stages + 1, math.MinInt, math.MaxInt})
		}
	}
	if r.chance(2) {
		slices.Sort(l)
	}
	return l
}

// P35.4, P35.5: random assignments, held against the words of the promises
func TestRandomAssignments(t *testing.T) {
	r := random(354)
	count := map[bool]int{}
	for range 4000 {
		p, c := randomProgram(&r, 5), randomChip(&r)
		if r.chance(4) {
			c = stages(1 + r.below(16))
		}
		if r.chance(50) {
			x := pick(&r, parts(&c))
			*x.n = pick(&r, []int{x.least - 1, x.most + 1})
		}
		l := units.Build(p)
		stage := randomStages(&r, len(l), max(1, c.Stages))
		want := wantValid(p, c, stage)
		count[want]++
		expectValid(t, "a random assignment", p, c, stage, want)
		for _, s := range []int{-1, 0, 1 + r.below(3)} {
			var used taken
			if len(stage) == len(l) {
				used.tables, used.gates, used.memory = wantUsage(p, l, stage, s)
			}
			expectUsage(t, "a random assignment", p, stage, s, used)
		}
		if t.Failed() {
			t.Logf("the program is %+v", p)
			return
		}
	}
	if count[true] < 500 || count[false] < 1000 {
		t.Errorf("the answers are %v", count)
	}
}

// P35.4, P35.5: far more stages than units
func TestLongAssignment(t *testing.T) {
	long := make([]int, 1<<20)
	expectValid(t, "a long assignment", apart(1, 1), wide(), long, false)
	expectUsage(t, "a long assignment", apart(1, 1), long, 0, taken{})
}
