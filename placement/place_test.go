package placement_test

import (
	"math"
	"slices"
	"testing"

	"patchbay/api"
	"patchbay/deps"
	"patchbay/placement"
	"patchbay/program"
	"patchbay/resource"
	"patchbay/units"
)

// wantUsage is the chapter's definition of the usage of stage s by the units that have one.
func wantUsage(p api.Program, l []api.Unit, stage []int, s int) (tables, gates int, n api.Resources) {
	var costs []api.Resources
	for i := range stage {
		if stage[i] != s {
			continue
		}
		costs = append(costs, resource.UnitCost(p, l[i]))
		if l[i].Table == -1 {
			gates++
		} else {
			tables++
		}
	}
	return tables, gates, resource.Sum(costs)
}

func isWithin(p api.Program, l []api.Unit, c api.Chip, stage []int, s int) bool {
	tables, gates, n := wantUsage(p, l, stage, s)
	return tables <= c.Tables && gates <= c.Gates && resource.Fits(n, c)
}

// plainSearch is the search of P35.3.
type plainSearch struct {
	p             api.Program
	c             api.Chip
	l             []api.Unit
	d             [][]int
	steps, budget int
	over          bool // another step would exceed the budget
}

// succeeds is the test of the last unit of stage.
func (x *plainSearch) succeeds(stage []int) bool {
	j := len(stage) - 1
	for i := range j {
		if x.d[i][j] == deps.LaterStage && !(stage[j] > stage[i]) || x.d[i][j] == deps.SameStage && !(stage[j] >= stage[i]) {
			return false
		}
	}
	return isWithin(x.p, x.l, x.c, stage, stage[j])
}

// from goes on behind the units that have a stage. It answers nil if that leads to nothing.
func (x *plainSearch) from(stage []int) []int {
	if len(stage) == len(x.l) {
		return stage
	}
	for s := range x.c.Stages {
		if x.steps == x.budget {
			x.over = true
			return nil
		}
		x.steps++
		next := append(slices.Clone(stage), s)
		if !x.succeeds(next) {
			continue
		}
		if found := x.from(next); found != nil || x.over {
			return found
		}
	}
	return nil
}

func wantSearch(p api.Program, c api.Chip, budget int) api.Placement {
	l := units.Build(p)
	x := plainSearch{p: p, c: c, l: l, d: deps.Build(p, l), budget: min(budget, 1<<20)}
	found := x.from([]int{})
	switch {
	case found != nil:
		return api.Placement{Status: api.Placed, Stage: found, Steps: x.steps}
	case x.over:
		return api.Placement{Status: api.Undecided, Steps: x.budget, Reason: api.ErrBudget}
	}
	return api.Placement{Status: api.Infeasible, Steps: x.steps, Reason: api.ErrFull}
}

// wantPlace is P35.2 and P35.3, word by word.
func wantPlace(p api.Program, c api.Chip, budget int) api.Placement {
	fails := func(reason api.Errno, units ...int) api.Placement {
		return api.Placement{Status: api.Infeasible, Reason: reason, Units: units}
	}
	if d := program.Check(p); d.Code != api.OK {
		return fails(d.Code)
	}
	if e := placement.CheckChip(c); e != api.OK {
		return fails(e)
	}
	if budget < 0 {
		return fails(api.ErrArg)
	}
	l := units.Build(p)
	for i, u := range l {
		if u.Table == -1 && c.Gates == 0 || u.Table != -1 && (c.Tables == 0 || !resource.Fits(resource.UnitCost(p, u), c)) {
			return fails(api.ErrMemory, i)
		}
	}
	d := deps.Build(p, l)
	if slices.Max(append(deps.EarliestStages(d), 0)) >= c.Stages {
		return fails(api.ErrStages, deps.CriticalPath(d)...)
	}
	return wantSearch(p, c, budget)
}

func samePlacement(a, b api.Placement) bool {
	return a.Status == b.Status && a.Steps == b.Steps && a.Reason == b.Reason && slices.Equal(a.Stage, b.Stage) && slices.Equal(a.Units, b.Units)
}

// expectPlace expects what Place answers, and that nothing else shows what is done with the answer.
func expectPlace(t *testing.T, what string, p api.Program, c api.Chip, budget int, want api.Placement) {
	t.Helper()
	p.Control = spare(p.Control, api.ControlNode{Kind: 9})
	p.Tables = spare(p.Tables, api.Table{Name: "behind"})
	before := text(p)
	x := placement.Place(p, c, budget)
	if !samePlacement(x, want) {
		t.Errorf("%s: Place answers %+v, want %+v", what, x, want)
	}
	for _, l := range [][]int{x.Stage[:cap(x.Stage)], x.Units[:cap(x.Units)]} {
		for i := range l {
			l[i] = 77
		}
	}
	if text(p) != before {
		t.Errorf("%s: the program is changed", what)
	}
	if again := placement.Place(p, c, budget); !samePlacement(again, want) {
		t.Errorf("%s: the second time Place answers %+v, want %+v", what, again, want)
	}
}

// expectBoth expects it of the tests' own answer too.
func expectBoth(t *testing.T, what string, p api.Program, c api.Chip, budget int, want api.Placement) {
	t.Helper()
	expectPlace(t, what, p, c, budget, want)
	if own := wantPlace(p, c, budget); !samePlacement(own, want) {
		t.Errorf("%s: the tests' own answer: %+v, want %+v", what, own, want)
	}
}

func placed(steps int, stage ...int) api.Placement {
	return api.Placement{Status: api.Placed, Stage: stage, Steps: steps}
}

func infeasible(reason api.Errno, units ...int) api.Placement {
	return api.Placement{Status: api.Infeasible, Reason: reason, Units: units}
}

func full(steps int) api.Placement {
	return api.Placement{Status: api.Infeasible, Steps: steps, Reason: api.ErrFull}
}

func undecided(steps int) api.Placement {
	return api.Placement{Status: api.Undecided, Steps: steps, Reason: api.ErrBudget}
}

// expectSearch expects the end of a search with each budget that is enough for it, and with each that isn't.
func expectSearch(t *testing.T, what string, p api.Program, c api.Chip, want api.Placement) {
	t.Helper()
	for budget := range want.Steps {
		expectBoth(t, what+", a small budget", p, c, budget, undecided(budget))
	}
	for _, budget := range []int{want.Steps, want.Steps + 1, 1000 + want.Steps, 1 << 20, 1<<20 + 1, 1 << 32, math.MaxInt} {
		expectBoth(t, what, p, c, budget, want)
	}
}

// P35.2, P35.3: the chapter's example
func TestExample(t *testing.T) {
	p := row(2)
	expectBoth(t, "one stage", p, stages(1), 9, infeasible(api.ErrStages, 0, 1))
	expectSearch(t, "two stages", p, stages(2), placed(3, 0, 1))
	expectBoth(t, "a budget of 2", p, stages(2), 2, undecided(2))
}

// P35.2: each error ahead of those behind it
func TestErrors(t *testing.T) {
	const all = 5
	for faults := range 1 << all {
		p, c, budget := row(2), wide(), 100
		want := placed(3, 0, 1)
		for i, fault := range [all]func() api.Placement{ // the last ones first, so that the first one's answer stays
			func() api.Placement { c.Stages = 1; return infeasible(api.ErrStages, 0, 1) },
			func() api.Placement { c.SRAM = 0; return infeasible(api.ErrMemory, 0) },
			func() api.Placement { budget = -1; return infeasible(api.ErrArg) },
			func() api.Placement { c.C16 = 65; return infeasible(api.ErrRange) },
			func() api.Placement { p.Name = ""; return infeasible(api.ErrName) },
		} {
			if faults>>i&1 == 1 {
				want = fault()
			}
		}
		expectBoth(t, "faults", p, c, budget, want)
	}
}

// P35.2: the code of program.Check, wherever the error is
func TestInvalidPrograms(t *testing.T) {
	for want, damage := range map[api.Errno]func(p *api.Program){
		api.ErrDuplicate: func(p *api.Program) { p.Control = append(p.Control, apply(0)...) },
		api.ErrLimit:     func(p *api.Program) { p.Metadata = append(p.Metadata, api.Field{Name: "one", Width: 8}) },
		api.ErrRange:     func(p *api.Program) { p.Tables[1].Size = 0 },
		api.ErrNotFound:  func(p *api.Program) { p.States = nil },
		api.ErrOrder:     func(p *api.Program) { p.States[0].Default = 0 },
		api.ErrKind:      func(p *api.Program) { p.Control[0].Kind = 0 },
		api.ErrWidth:     func(p *api.Program) { p.Metadata[3].Width = 0 },
		api.ErrSyntax:    func(p *api.Program) { p.Control[1].Then = apply(0) },
	} {
		p := row(2)
		damage(&p)
		for _, c := range []api.Chip{wide(), stages(1), memory(2, 0, 0), {}} {
			for _, budget := range []int{100, 0, -1} {
				expectBoth(t, want.Error(), p, c, budget, infeasible(want))
			}
		}
	}
	expectBoth(t, "no program", api.Program{}, wide(), 100, infeasible(api.ErrName))
	deep := apply(0)
	for range 1000 {
		deep = when(0, deep, nil)
	}
	expectBoth(t, "too many nodes", run(row(1), deep), wide(), 100, infeasible(api.ErrLimit))
}

// P35.2: each chip that CheckChip rejects, and each negative budget
func TestInvalidArguments(t *testing.T) {
	for _, p := range []api.Program{sample(), row(3), gates(2)} {
		c := wide()
		for i, x := range parts(&c) {
			for _, n := range []int{x.least - 1, x.most + 1, math.MinInt, math.MaxInt} {
				c := wide()
				*parts(&c)[i].n = n
				expectBoth(t, x.name, p, c, 100, infeasible(api.ErrRange))
			}
		}
		for _, budget := range []int{-1, -2, -1 << 20, -1 << 32, math.MinInt} {
			expectBoth(t, "a negative budget", p, wide(), budget, infeasible(api.ErrArg))
		}
	}
}

// mixed answers a program of three tables and, as unit 1, a gate that the second table is guarded by. Their costs are
// 3 blocks of SRAM, 1 with 2 of TCAM, and 5 with 1.
func mixed() api.Program {
	p := with(with(with(sample(), need{3, 0}, fields(0), nil), need{1, 2}, fields(0, 1), nil), need{5, 1}, fields(0), nil)
	return run(p, apply(0), when(0, apply(1), nil), apply(2))
}

// P35.2: the first unit that fits into no stage
func TestNoRoom(t *testing.T) {
	for _, x := range []struct {
		what string
		c    api.Chip
		unit int
	}{
		{"no SRAM for the first table", memory(2, 2, 2), 0},
		{"no SRAM for the last table", memory(2, 4, 2), 3},
		{"no SRAM for any table", memory(2, 0, 2), 0},
		{"no TCAM for the second table", memory(2, 5, 1), 2},
		{"no TCAM for the second and the last table", memory(2, 5, 0), 2},
		{"no TCAM for the second, no SRAM for the last table", memory(2, 4, 1), 2},
		{"no memory", memory(2, 0, 0), 0},
		{"no tables", slots(2, 0, 1), 0},
		{"no gates", slots(2, 1, 0), 1},
		{"neither tables nor gates", slots(2, 0, 0), 0},
		{"no gates, no TCAM for the second table", api.Chip{Stages: 2, Tables: 4, SRAM: 9, TCAM: 1}, 1},
		{"no gates, no SRAM for the first table", api.Chip{Stages: 2, Tables: 4, SRAM: 2, TCAM: 2}, 0},
	} {
		for _, budget := range []int{0, 100} {
			expectBoth(t, x.what, mixed(), x.c, budget, infeasible(api.ErrMemory, x.unit))
		}
	}
	expectSearch(t, "just enough of everything", mixed(), api.Chip{Stages: 2, Tables: 2, Gates: 1, SRAM: 5, TCAM: 2}, placed(14, 1, 0, 1, 0))
	expectSearch(t, "enough for all at once", mixed(), memory(2, 8, 2), placed(5, 0, 0, 1, 0))
}

// P35.2: units that need no memory, and tables that are not applied
func TestNoNeed(t *testing.T) {
	free := run(with(sample(), need{}, nil, nil), apply(0))
	expectSearch(t, "a table without keys", free, api.Chip{Stages: 1, Tables: 1}, placed(1, 0))
	expectBoth(t, "a table without keys, no tables", free, api.Chip{Stages: 1, Gates: 1, SRAM: 9}, 9, infeasible(api.ErrMemory, 0))
	expectSearch(t, "gates", gates(2), api.Chip{Stages: 1, Gates: 2}, placed(2, 0, 0))
	expectBoth(t, "gates, no gates", gates(2), api.Chip{Stages: 1, Tables: 2, SRAM: 9}, 9, infeasible(api.ErrMemory, 0))
	unused := with(apart(1), need{9, 1}, fields(0), nil)
	expectSearch(t, "a table that is not applied", unused, memory(1, 1, 0), placed(1, 0))
	for _, c := range []api.Chip{wide(), {Stages: 1}, {Stages: 16}} {
		expectSearch(t, "no units", sample(), c, placed(0))
		expectSearch(t, "tables of which none is applied", run(mixed()), c, placed(0))
	}
}

// P35.2: too few stages for the dependencies
func TestNoStages(t *testing.T) {
	for n := 2; n <= api.MaxTables; n++ {
		var path []int
		for i := range n {
			path = append(path, i)
		}
		expectBoth(t, "a row of tables", row(n), stages(n-1), 0, infeasible(api.ErrStages, path...))
		expectBoth(t, "a row of tables", row(n), stages(1), 100, infeasible(api.ErrStages, path...))
		expectBoth(t, "a row of tables, enough stages", row(n), stages(n), 100, placed(n*(n+1)/2, path...))
	}
	// Table 0 stands alone; 1 and 2 set what 3 matches on, 4 sets it too, and 5 matches on that. So 5 must follow 3.
	p := sample()
	for _, x := range [][2][]int{{fields(0), fields(10)}, {fields(0), fields(3)}, {fields(0), fields(4)}, {fields(3, 4), fields(5)}, {fields(0), fields(3)}, {fields(3), fields(6)}} {
		p = with(p, need{sram: 1}, x[0], x[1])
	}
	p = run(p, apply(0, 1, 2, 3, 4, 5))
	expectBoth(t, "two stages", p, stages(2), 100, infeasible(api.ErrStages, 1, 3, 5))
	expectBoth(t, "one stage", p, stages(1), 100, infeasible(api.ErrStages, 1, 3, 5))
	expectSearch(t, "three stages", p, stages(3), placed(10, 0, 0, 0, 1, 1, 2))
}

// P35.2, P35.3: the branches of a gate and of a table
func TestBranches(t *testing.T) {
	p := with(with(with(sample(), need{sram: 1}, fields(0), fields(3)), need{sram: 1}, fields(0), fields(3)), need{sram: 1}, fields(0), nil)
	both := run(p, when(0, apply(0), apply(1)))
	expectSearch(t, "two branches of a gate", both, stages(2), placed(5, 0, 1, 1))
	expectBoth(t, "two branches of a gate, one stage", both, stages(1), 9, infeasible(api.ErrStages, 0, 1))
	expectSearch(t, "two branches of a table", run(p, hit(2, apply(0), apply(1))), stages(2), placed(5, 0, 1, 1))
	same := run(p, when(0, apply(0, 1), nil))
	expectSearch(t, "one branch of a gate", same, stages(3), placed(6, 0, 1, 2))
	expectBoth(t, "one branch of a gate, two stages", same, stages(2), 9, infeasible(api.ErrStages, 0, 1, 2))
	nested := run(p, when(0, when(1, apply(0), apply(1)), nil))
	expectSearch(t, "branches further inside", nested, stages(4), placed(9, 0, 1, 2, 2))
}

// P35.3: searches without a step back
func TestFirstStages(t *testing.T) {
	beside := run(with(with(with(sample(), need{sram: 5}, fields(0), nil), need{sram: 5}, fields(3), nil), need{sram: 1}, fields(0), fields(3)), apply(0, 1, 2))
	ternary := sample()
	for range 5 {
		ternary = with(ternary, need{1, 1}, fields(0), nil)
	}
	for _, x := range []struct {
		what string
		p    api.Program
		c    api.Chip
		want api.Placement
	}{
		{"one unit", apart(1), stages(3), placed(1, 0)},
		{"units that have room in one stage", apart(1, 2, 3), memory(1, 6, 0), placed(3, 0, 0, 0)},
		{"the same units without", apart(1, 2, 3), memory(2, 5, 0), placed(4, 0, 0, 1)},
		{"a unit that fits in ahead", apart(3, 3, 2), memory(2, 5, 0), placed(4, 0, 1, 0)},
		{"a table a stage", apart(1, 1, 1), slots(3, 1, 0), placed(6, 0, 1, 2)},
		{"two tables a stage", apart(1, 1, 1, 1, 1), slots(3, 2, 0), placed(9, 0, 0, 1, 1, 2)},
		{"two gates a stage", gates(5), slots(3, 0, 2), placed(9, 0, 0, 1, 1, 2)},
		{"two tables a stage by their TCAM", run(ternary, apply(0, 1, 2, 3, 4)), memory(3, 9, 2), placed(9, 0, 0, 1, 1, 2)},
		{"a table and a gate a stage", run(apart(1, 1), apply(0), when(0, nil, nil), apply(1), when(0, nil, nil)), slots(2, 1, 1), placed(6, 0, 0, 1, 1)},
		{"a unit not ahead of one that reads what it writes", beside, memory(3, 9, 0), placed(5, 0, 1, 1)},
		{"no room beside that one", beside, memory(3, 5, 0), placed(6, 0, 1, 2)},
		{"units that go by the order of their indices", run(apart(4, 3, 2, 1), apply(3, 2, 1, 0)), memory(3, 4, 0), placed(7, 0, 0, 1, 2)},
	} {
		expectSearch(t, x.what, x.p, x.c, x.want)
	}
}

// P35.3: searches that must go back
func TestStepsBack(t *testing.T) {
	late := with(with(with(sample(), need{sram: 1}, fields(0), nil), need{sram: 4}, fields(3), nil), need{sram: 4}, fields(0), fields(3))
	for _, x := range []struct {
		what string
		p    api.Program
		c    api.Chip
		want api.Placement
	}{
		// 0 at 0, 1 at 0, 2 at 1, 3 nowhere; 1 at 1, 2 at 0, 3 at 1
		{"one unit back, then two", apart(2, 2, 3, 3), memory(2, 5, 0), placed(10, 0, 1, 0, 1)},
		// 0 at 0, 1 at 1, 2 nowhere; 0 at 1, 1 at 0, 2 nowhere
		{"a stage too few", apart(1, 1, 1), slots(2, 1, 0), full(10)},
		{"a gate too many", gates(3), slots(2, 0, 1), full(10)},
		{"one stage", apart(3, 3), memory(1, 5, 0), full(2)},
		{"one stage, the last unit", apart(1, 1, 1, 1), slots(1, 3, 0), full(4)},
		{"no step back", run(late, apply(0, 1, 2)), memory(2, 5, 0), placed(4, 0, 0, 1)},
		// 0 at 0, 1 at 1, 2 nowhere, as it may not be ahead of 1; 0 at 1, 1 at 0, 2 nowhere; 1 nowhere else
		{"no room behind a unit", run(late, apply(0, 1, 2)), memory(2, 4, 0), full(10)},
		{"room behind a unit", run(late, apply(0, 1, 2)), memory(3, 4, 0), placed(6, 0, 1, 2)},
	} {
		expectSearch(t, x.what, x.p, x.c, x.want)
	}
}

// P35.3: a budget above the greatest one counts as that
func TestGreatestBudget(t *testing.T) {
	const most = 1 << 20
	// With n tables for n - 1 stages, a table that finds k stages free is tried at all stages and goes on at k of them.
	steps := func(n int) int {
		all := 0
		for k := range n {
			all = n - 1 + k*all
		}
		return all
	}
	tables := func(n int) api.Program { return apart(slices.Repeat([]int{1}, n)...) }
	for n := 2; n <= 9; n++ {
		for _, budget := range []int{steps(n), steps(n) + 1, most, most + 1, math.MaxInt} {
			expectPlace(t, "a search that ends", tables(n), slots(n-1, 1, 0), budget, full(steps(n)))
		}
		expectPlace(t, "a search cut off", tables(n), slots(n-1, 1, 0), steps(n)-1, undecided(steps(n)-1))
	}
	if steps(3) != 10 || steps(9) != 876808 {
		t.Errorf("the steps are %d and %d", steps(3), steps(9))
	}
	for _, budget := range []int{most - 1, most, most + 1, 2 * most, 1 << 32, 1<<32 + 5, math.MaxInt} {
		expectPlace(t, "a search that would take longer", tables(10), slots(9, 1, 0), budget, undecided(min(budget, most)))
		expectPlace(t, "a search that would take far longer", tables(12), slots(11, 1, 0), budget, undecided(min(budget, most)))
	}
	expectPlace(t, "a search that would take far longer", tables(12), slots(11, 1, 0), 0, undecided(0))
}

// P35.2, P35.3: random programs, chips and budgets, held against the words of the promises
func TestRandomPlace(t *testing.T) {
	r := random(353)
	count := map[api.Errno]int{}
	back := 0
	for range 6000 {
		p, c := randomProgram(&r, mostUnits), randomChip(&r)
		budget := 2000
		if r.chance(3) {
			budget = r.below(30)
		}
		want := wantPlace(p, c, budget)
		count[want.Reason]++
		if want.Status == api.Placed && want.Steps > len(want.Stage)*c.Stages {
			back++
		}
		expectPlace(t, "a random program", p, c, budget, want)
		if t.Failed() {
			t.Logf("the program is %+v, the chip %+v, the budget %d", p, c, budget)
			return
		}
	}
	if count[api.OK] < 1000 || count[api.ErrMemory] < 300 || count[api.ErrStages] < 300 || count[api.ErrFull] < 100 || count[api.ErrBudget] < 100 || back < 20 {
		t.Errorf("the reasons are %v, %d searches went back", count, back)
	}
}
